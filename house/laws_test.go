package house_test

import (
	"fmt"
	"math/rand"
	"strconv"
	"strings"
	"testing"

	"acrospire/api"
	"acrospire/house"
)

// plays calls a function for houses in which many lines were said, and after every one of
// them, or at the end only.
func plays(t *testing.T, seed int64, count, lines int, after, end func(x *house.House, m *model)) {
	t.Helper()
	r := rand.New(rand.NewSource(seed))
	for range count {
		h := randomPlant(r)
		x, m := mustNew(t, h), newModel(h)
		w := writer{r, m}
		for range lines {
			both(t, x, m, w.line())
			after(x, m)
		}
		end(x, m)
	}
}

func nothing(*house.House, *model) {}

// P11.1 to P11.7
func TestHousesDoAsTheChapterSays(t *testing.T) {
	plays(t, 1, 60, 150, func(x *house.House, m *model) { mustBe(t, x, m) }, nothing)
	plays(t, 2, 300, 150, nothing, func(x *house.House, m *model) { mustBe(t, x, m) })
}

// P11.8
func TestMassesAreConserved(t *testing.T) {
	plays(t, 3, 100, 120, func(x *house.House, m *model) {
		book, total := x.Book(), 0
		for lot := range book.Lots() {
			_, left, shipped, discarded, _ := book.Mass(lot)
			total += left + shipped + discarded
		}
		if total != m.now.received {
			t.Fatalf("%d was received, but there is %d", m.now.received, total)
		}
	}, nothing)
}

// P11.8
func TestMoistureIsConserved(t *testing.T) {
	plays(t, 4, 100, 120, func(x *house.House, m *model) {
		for number := range m.now.holds {
			_, cells, _ := x.Bed(number)
			if sum(cells)+m.now.lost[number] != m.now.taken[number] {
				t.Fatalf("bed %d took up %d, has %v, and lost %d", number, m.now.taken[number], cells, m.now.lost[number])
			}
		}
	}, nothing)
}

// P11.8, by the answers alone.
func TestMoistureIsConservedByTheAnswers(t *testing.T) {
	h := plant(1, 4, 200)
	h.Grain = api.Grain{Num: 3, Den: 10, Loss: 1}
	x := mustNew(t, h)
	mustSay(t, x, "receive 50", "lot 0", "charge 0 0 20", "lot 1")
	r := rand.New(rand.NewSource(5))
	taken, lost := 0, 0
	for range 50 {
		water := r.Intn(2000)
		taken += water - numberOf(t, x, "steep 0", water)
		lost += numberOf(t, x, "tick", 1+r.Intn(20))
		_, cells, _ := x.Bed(0)
		if sum(cells)+lost != taken {
			t.Fatalf("the bed took up %d, has %v, and lost %d", taken, cells, lost)
		}
	}
}

// numberOf says a line with a number, and returns the number in the answer.
func numberOf(t *testing.T, x *house.House, words string, number int) int {
	t.Helper()
	answer, e := x.Do(fmt.Sprint(words, " ", number))
	if e != api.OK {
		t.Fatalf("%s %d: %d", words, number, e)
	}
	_, text, _ := strings.Cut(answer, " ")
	result, err := strconv.Atoi(text)
	if err != nil {
		t.Fatalf("%s %d: %q", words, number, answer)
	}
	return result
}

// P11.9
func TestCrashesGoBackToTheLastSave(t *testing.T) {
	r := rand.New(rand.NewSource(6))
	for range 150 {
		h := randomPlant(r)
		x, m := mustNew(t, h), newModel(h)
		w := writer{r, m}
		text, acts := x.Text(), 0
		for range 120 {
			line := w.line()
			said := x.Say(line)
			m.say(line)
			switch {
			case strings.HasPrefix(said, "saved"):
				text, acts = x.Text(), x.Acts()
			case strings.HasPrefix(said, "recovered") && (x.Text() != text || x.Acts() != acts):
				t.Fatalf("after %q Text is\n%swant\n%s", line, x.Text(), text)
			}
		}
	}
}

// P11.10
func TestRefusalsChangeNothing(t *testing.T) {
	r := rand.New(rand.NewSource(7))
	refusals := 0
	for range 150 {
		h := randomPlant(r)
		x, m := mustNew(t, h), newModel(h)
		w := writer{r, m}
		for range 150 {
			line, text, acts, room := w.line(), x.Text(), x.Acts(), x.Room()
			said := m.say(line)
			if got := x.Say(line); got != said {
				t.Fatalf("Say(%q) = %q, want %q", line, got, said)
			}
			if !strings.HasPrefix(said, "error ") {
				continue
			}
			refusals++
			if x.Text() != text || x.Acts() != acts || x.Room() != room {
				t.Fatalf("Say(%q) = %q, but changes\n%sto\n%s", line, said, text, x.Text())
			}
		}
	}
	if refusals < 2000 {
		t.Errorf("only %d refusals", refusals)
	}
}

// P11.10
func TestStoredActsLeadToTheSameText(t *testing.T) {
	plays(t, 8, 150, 150, nothing, func(x *house.House, m *model) {
		again, e := house.New(m.plant)
		if e != api.OK {
			t.Fatalf("New: %d", e)
		}
		for _, line := range m.acts {
			if answer, e := again.Do(line); e != api.OK {
				t.Fatalf("Do(%q) = %q, %d", line, answer, e)
			}
		}
		text := x.Text()
		if again.Text() != text || again.Acts() != x.Acts() {
			t.Fatalf("the acts lead to\n%sinstead of\n%s", again.Text(), text)
		}
		x.Say("save")
		x.Say("crash")
		if x.Text() != text || x.Acts() != again.Acts() {
			t.Fatalf("saved acts lead to\n%sinstead of\n%s", x.Text(), text)
		}
	})
}
