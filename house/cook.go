package house

import (
	"slices"
	"strings"

	"acrospire/api"
	"acrospire/bed"
	"acrospire/recipe"
)

// maxGas is the most gas that a recipe can have.
const maxGas = 1 << 20

// What a recipe tells to do with the bed, by the codes that it emits.
const (
	pourCode = 1
	waitCode = 2
	turnCode = 3
)

func (f *floor) cook(a arguments) string {
	v := f.charged(a.numbers[0])
	gas := a.numbers[1]
	if gas > maxGas {
		refuse(api.ErrArg)
	}
	emitted := f.follow(a.texts[0], v.cells, gas)
	if len(emitted)%2 != 0 {
		refuse(api.ErrArg)
	}
	cells := v.cells
	for pair := range slices.Chunk(emitted, 2) {
		cells = f.treat(cells, pair[0], pair[1])
	}
	v.cells = cells
	return phrase("done", len(emitted)/2)
}

// follow returns what a recipe emits for a bed.
func (f *floor) follow(text string, cells []int, gas int) []int {
	inputs := []string{"time", "top", "bottom", "spread", "total"}
	code, names, _, err := recipe.Compile(strings.ReplaceAll(text, ";", "\n"), inputs)
	require(err)
	variables := make([]int, len(names))
	copy(variables, f.measure(cells))
	run, err := recipe.Exec(code, variables, gas)
	require(err)
	switch run.End {
	case api.Failed:
		refuse(api.Errno(run.Err))
	case api.Starved:
		refuse(api.ErrState)
	}
	return run.Out
}

// measure returns the values of the inputs of a recipe.
func (f *floor) measure(cells []int) []int {
	spread, err := bed.Spread(cells)
	require(err)
	total := 0
	for _, moisture := range cells {
		total += moisture
	}
	return []int{f.time, cells[0], cells[len(cells)-1], spread, total}
}

// treat returns the bed after what a pair of numbers tells to do with it.
func (f *floor) treat(cells []int, code, number int) []int {
	var treated []int
	err := api.ErrArg
	switch {
	case code == pourCode:
		treated, _, err = bed.Steep(cells, f.plant.Full, number)
	case code == waitCode && number <= api.MaxTicks:
		treated, _, _, err = bed.Run(f.plant.Grain, cells, number)
	case code == turnCode:
		treated, err = bed.Turn(cells)
	}
	require(err)
	return treated
}
