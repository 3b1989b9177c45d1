package house

import (
	"strconv"
	"strings"

	"acrospire/api"
	"acrospire/page"
)

// keyDigits is the number of digits of a key in the store.
const keyDigits = 8

// A refusal is what an act panics with if it is wrong.
type refusal struct {
	err api.Errno
}

func refuse(err api.Errno) {
	panic(refusal{err})
}

// require refuses an act that leads to an error.
func require(err api.Errno) {
	if err != api.OK {
		refuse(err)
	}
}

// Do performs the act of a line, and returns its answer.
func (x *House) Do(line string) (answer string, err api.Errno) {
	if !x.isUsable() {
		return "", api.ErrUnusable
	}
	defer func() {
		if wrong, ok := recover().(refusal); ok {
			answer, err = "", wrong.err
		}
	}()
	return x.perform(line), api.OK
}

// Say performs the act of a line, and returns its answer or its error as a line.
func (x *House) Say(line string) string {
	answer, err := x.Do(line)
	switch err {
	case api.OK:
		return answer + "\n"
	case api.ErrUnusable:
		return ""
	default:
		return phrase("error", int(err)) + "\n"
	}
}

// Play returns what a new house says to the lines of a text.
func Play(h api.House, text string) (string, api.Errno) {
	x, err := New(h)
	if err != api.OK {
		return "", err
	}
	var said strings.Builder
	for line := range strings.SplitSeq(text, "\n") {
		if line != "" {
			said.WriteString(x.Say(line))
		}
	}
	return said.String(), api.OK
}

// perform performs the act of a line, and stores it if it is one of the floor.
func (x *House) perform(line string) string {
	if len(line) > api.MaxValue {
		refuse(api.ErrSyntax)
	}
	if perform := understand(x.storeActs(), line); perform != nil {
		return perform()
	}
	perform := understand(x.acts(), line)
	if perform == nil {
		refuse(api.ErrSyntax)
	}
	if x.Room() == 0 {
		refuse(api.ErrFull)
	}
	answer := perform()
	require(x.store.Put(keyOf(x.Acts()), line))
	return answer
}

// storeActs returns the acts that are not stored, since the store is what they act on.
func (x *House) storeActs() map[string]act {
	return map[string]act{
		"save":  {"", "", x.save},
		"crash": {"", "n", x.crash},
	}
}

func (x *House) save(arguments) string {
	require(x.store.Commit())
	return phrase("saved", x.Acts())
}

func (x *House) crash(a arguments) string {
	require(x.disk.Crash(a.numbers))
	store, err := page.Open(x.disk)
	require(err)
	x.store, x.floor = store, newFloor(x.plant)
	x.performAgain()
	return phrase("recovered", x.Acts())
}

// performAgain performs the acts in the store, none of which can be refused: the floor is as
// it was when they were performed first.
func (x *House) performAgain() {
	pairs, err := x.store.Scan("", "", x.Acts())
	require(err)
	for _, pair := range pairs {
		perform := understand(x.acts(), pair.Value)
		perform()
	}
}

// keyOf returns the key of the act before which so many others are stored.
func keyOf(acts int) string {
	digits := strconv.Itoa(acts)
	return strings.Repeat("0", keyDigits-len(digits)) + digits
}
