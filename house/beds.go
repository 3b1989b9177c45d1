package house

import (
	"acrospire/api"
	"acrospire/bed"
)

// A vessel has no cells if it is empty, and otherwise the moistures of the lot in it.
type vessel struct {
	lot   int
	cells []int
}

func (v vessel) isEmpty() bool {
	return len(v.cells) == 0
}

// vessel returns the one with this number.
func (f *floor) vessel(number int) *vessel {
	if !isWithin(number, 0, len(f.beds)-1) {
		refuse(api.ErrRange)
	}
	return &f.beds[number]
}

// charged returns the vessel with this number, which must hold a lot.
func (f *floor) charged(number int) *vessel {
	v := f.vessel(number)
	if v.isEmpty() {
		refuse(api.ErrNone)
	}
	return v
}

func (f *floor) charge(a arguments) string {
	v := f.vessel(a.numbers[0])
	if !v.isEmpty() {
		refuse(api.ErrBusy)
	}
	lot, err := f.book.Blend([]api.Part{{Lot: a.numbers[1], Mass: a.numbers[2]}})
	require(err)
	*v = vessel{lot, make([]int, f.plant.Cells)}
	return phrase("lot", lot)
}

func (f *floor) steep(a arguments) string {
	v := f.charged(a.numbers[0])
	wet, rest, err := bed.Steep(v.cells, f.plant.Full, a.numbers[1])
	require(err)
	v.cells = wet
	return phrase("rest", rest)
}

func (f *floor) turn(a arguments) string {
	v := f.charged(a.numbers[0])
	turned, err := bed.Turn(v.cells)
	require(err)
	v.cells = turned
	return done
}

func (f *floor) read(a arguments) string {
	v := f.charged(a.numbers[0])
	readings, greatest := f.digest, 1<<f.plant.Levels-1
	for _, moisture := range v.cells {
		more, err := readings.Add(min(moisture, greatest), 1)
		require(err)
		readings = more
	}
	spread, err := bed.Spread(v.cells)
	require(err)
	f.digest = readings
	return phrase("spread", spread)
}

func (f *floor) empty(a arguments) string {
	v := f.charged(a.numbers[0])
	lot := v.lot
	*v = vessel{}
	return phrase("lot", lot)
}

func (f *floor) tick(a arguments) string {
	ticks := a.numbers[0]
	if !isWithin(ticks, 1, api.MaxTicks) {
		refuse(api.ErrArg)
	}
	if ticks > api.MaxTime-f.time {
		refuse(api.ErrFull)
	}
	var losses []int
	for number := range f.beds {
		v := &f.beds[number]
		if v.isEmpty() {
			continue
		}
		cells, lost, _, err := bed.Run(f.plant.Grain, v.cells, ticks)
		require(err)
		v.cells = cells
		losses = append(losses, lost)
	}
	f.time += ticks
	return phrase("lost", losses...)
}
