package house_test

import (
	"math/rand"
	"strconv"
	"strings"
)

// A writer writes lines at random, most of which fit to the state of a model.
type writer struct {
	r *rand.Rand
	m *model
}

// The forms of lines that are stored, as often as they are to be written; capital letters stand
// for arguments.
var forms = []string{
	"receive A", "receive A", "blend L M", "blend L M L M", "blend L M L M L M", "ship L M", "discard L M",
	"charge B L M", "charge B L M", "charge B L M", "charge B L M", "charge B L M", "steep B W", "steep B W", "steep B W", "turn B", "turn B",
	"read B", "read B", "empty B", "tick T", "tick T", "cook B G R", "cook B G R", "cook B G R", "cook B G R",
	"put S K V", "put S K V", "put S K V", "remove S K", "send S S", "send S S", "lose E", "deliver E", "deliver E", "repeat E",
}

var storeForms = []string{"save", "save", "save", "crash", "crash C", "crash C C"}

var recipes = []string{
	"emit 3;emit 0", "emit 1;emit 100", "emit 2;emit 5", "emit 1;emit time", "emit 1;emit top", "emit 2;emit bottom%9",
	"emit 1;emit spread;emit 3;emit 0", "emit 1;emit total", "if top>bottom;emit 3;emit 0;end", "let i 3;while i;emit 2;emit i;let i i-1;end",
	"# nothing", " emit 1; emit 7", "emit 1\nemit 8", "emit 1;emit -1", "emit 2;emit 4097", "emit 4;emit 0", "emit 3", "emit 1/0",
	"while 1;end", "while 1;emit 1;end", "emit", "end", "let x emit", "emit 1;emit 50;emit 0;emit 0",
}

var spoils = []func(line string, at int) string{
	func(line string, at int) string { return line[:at] + " " + line[at:] },
	func(line string, at int) string { return line[:at] + "0" + line[at:] },
	func(line string, at int) string { return line[:at] + "\n" + line[at:] },
	func(line string, at int) string { return line[:at] + "\x80" + line[at:] },
	func(line string, at int) string { return line[:at] + "-" + line[at:] },
	func(line string, at int) string { return line[:at] + "99999999999999999999" + line[at:] },
	func(line string, at int) string { return line[:at] },
	func(line string, at int) string { return line[at:] },
	func(line string, at int) string { return line + " " + strconv.Itoa(at) },
	func(line string, at int) string { return line + strings.Repeat("0", at) },
	func(line string, at int) string { return strings.ToUpper(line[:at]) + line[at:] },
}

// line returns a line, which sometimes is spoilt.
func (w writer) line() string {
	parts := strings.Split(w.form(), " ")
	for i, part := range parts[1:] {
		parts[1+i] = w.argument(part)
	}
	line := strings.Join(parts, " ")
	if w.r.Intn(20) == 0 {
		return spoils[w.r.Intn(len(spoils))](line, w.r.Intn(len(line)+1))
	}
	return line
}

func (w writer) form() string {
	if w.r.Intn(20) == 0 {
		return storeForms[w.r.Intn(len(storeForms))]
	}
	return forms[w.r.Intn(len(forms))]
}

func (w writer) argument(kind string) string {
	switch kind {
	case "R":
		return recipes[w.r.Intn(len(recipes))]
	case "K", "V":
		return []string{"a", "b", "ab", "~", "!", "0", "17", strings.Repeat("k", 25)}[w.r.Intn(8)]
	}
	return strconv.Itoa(w.number(kind))
}

func (w writer) number(kind string) int {
	if w.r.Intn(40) == 0 {
		return []int{0, 1 << 20, 1<<20 + 1, 1 << 40, 1<<40 + 1, 1<<63 - 1}[w.r.Intn(6)]
	}
	beyond := w.r.Intn(10) / 9 // seldom a number that is too great by one
	switch kind {
	case "A":
		return 1 + w.r.Intn(1000)
	case "M":
		return 1 + w.r.Intn(30)
	case "L":
		return w.r.Intn(max(w.m.now.book.Lots()+beyond, 1))
	case "B":
		return w.r.Intn(w.m.plant.Beds + beyond)
	case "W":
		return w.r.Intn(4000)
	case "T":
		return 1 + w.r.Intn(12)
	case "G":
		return w.r.Intn(400)
	case "S":
		return w.r.Intn(w.m.plant.Sites + beyond)
	case "E":
		return w.r.Intn(max(len(w.m.now.letters)+beyond, 1))
	}
	return w.r.Intn(5)
}
