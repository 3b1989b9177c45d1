package lots_test

import (
	"math/rand"
	"slices"
	"testing"

	"acrospire/api"
	"acrospire/lots"
)

func mustRecall(t *testing.T, b *lots.Book, lot int, want ...int) {
	t.Helper()
	if list, e := b.Recall(lot); !slices.Equal(list, want) || e != api.OK {
		t.Errorf("Recall(%d) = %v, %d, want %v", lot, list, e, want)
	}
}

func mustGate(t *testing.T, b *lots.Book, lot int, want ...int) {
	t.Helper()
	if list, e := b.Gates(lot); !slices.Equal(list, want) || e != api.OK {
		t.Errorf("Gates(%d) = %v, %d, want %v", lot, list, e, want)
	}
}

func mustSuspect(t *testing.T, b *lots.Book, bad, good []int, want ...int) {
	t.Helper()
	if list, e := b.Suspects(bad, good); !slices.Equal(list, want) || e != api.OK {
		t.Errorf("Suspects(%v, %v) = %v, %d, want %v", bad, good, list, e, want)
	}
}

// numbers makes a list of lots easier to read.
func numbers(list ...int) []int {
	return list
}

func TestRecall(t *testing.T) {
	b := example(t)
	mustRecall(t, b, 0, 0, 2, 3)
	mustRecall(t, b, 1, 1, 2, 3)
	mustRecall(t, b, 2, 2, 3)
	mustRecall(t, b, 3, 3)
	// What was used up is still contained.
	ship(t, b, 3, 50)
	receive(t, b, 7)
	blend(t, b, part(1, 40))
	mustRecall(t, b, 0, 0, 2, 3)
	mustRecall(t, b, 1, 1, 2, 3, 5)
	mustRecall(t, b, 4, 4)
}

func TestGates(t *testing.T) {
	b := lots.New()
	receive(t, b, 10)
	blend(t, b, part(0, 5))
	blend(t, b, part(0, 2), part(1, 5))
	mustGate(t, b, 0, 0)
	mustGate(t, b, 1, 0, 1)
	mustGate(t, b, 2, 0, 2)
	b = example(t)
	mustGate(t, b, 2, 2)
	mustGate(t, b, 3, 3)
	// Paths that part at a lot and meet again.
	blend(t, b, part(3, 20))
	blend(t, b, part(3, 20))
	blend(t, b, part(5, 10), part(4, 10))
	blend(t, b, part(6, 10))
	blend(t, b, part(6, 10), part(7, 5), part(5, 1))
	blend(t, b, part(8, 5), part(7, 5), part(2, 1))
	mustGate(t, b, 4, 3, 4)
	mustGate(t, b, 6, 3, 6)
	mustGate(t, b, 7, 3, 6, 7)
	mustGate(t, b, 8, 3, 8)
	mustGate(t, b, 9, 9)
}

// A lot with several origins can have only gates that are blended.
func TestGatesOfManyOrigins(t *testing.T) {
	b := lots.New()
	receive(t, b, 9, 9, 9)
	blend(t, b, part(0, 4), part(1, 4))
	blend(t, b, part(3, 4))
	mustGate(t, b, 4, 3, 4)
	blend(t, b, part(3, 2), part(4, 2))
	mustGate(t, b, 5, 3, 5)
	blend(t, b, part(5, 1), part(2, 1))
	mustGate(t, b, 6, 6)
	blend(t, b, part(2, 1), part(5, 1))
	mustGate(t, b, 7, 7)
}

func TestSuspects(t *testing.T) {
	b := example(t)
	mustSuspect(t, b, numbers(3), numbers(0), 1, 2, 3)
	mustSuspect(t, b, numbers(3), nil, 0, 1, 2, 3)
	mustSuspect(t, b, numbers(3), numbers(2), 3)
	mustSuspect(t, b, numbers(3), numbers(3))
	mustSuspect(t, b, numbers(2, 3), nil, 0, 1, 2)
	mustSuspect(t, b, numbers(3, 2), numbers(1), 0, 2)
	mustSuspect(t, b, numbers(0, 1), nil)
	mustSuspect(t, b, numbers(0), numbers(1), 0)
	mustSuspect(t, b, numbers(0), numbers(2))
	mustSuspect(t, b, numbers(2, 3, 0), nil, 0)
	mustSuspect(t, b, numbers(3, 0), numbers(0))
	mustSuspect(t, b, numbers(2), numbers(3))
}

// If there are no bad lots, all lots that no good lot contains are suspects.
func TestSuspectsWithoutBadLots(t *testing.T) {
	b := example(t)
	for _, none := range [][]int{nil, {}} {
		mustSuspect(t, b, none, none, 0, 1, 2, 3)
		mustSuspect(t, b, none, numbers(0), 1, 2, 3)
		mustSuspect(t, b, none, numbers(2), 3)
		mustSuspect(t, b, none, numbers(3))
		mustSuspect(t, lots.New(), none, none)
	}
}

func TestSuspectsOfLotsGivenSeveralTimes(t *testing.T) {
	b := example(t)
	mustSuspect(t, b, numbers(3, 2, 3, 3, 2), numbers(1, 1), 0, 2)
	mustSuspect(t, b, slices.Repeat(numbers(3, 2), 100000), slices.Repeat(numbers(1), 100000), 0, 2)
	mustSuspect(t, b, numbers(0, 3), numbers(3, 0, 3))
}

func TestTracesInFullBook(t *testing.T) {
	b := lots.New()
	receive(t, b, 1000)
	for b.Lots() < api.MaxLots {
		blend(t, b, part(b.Lots()-1, 1000))
	}
	var all []int
	for number := range api.MaxLots {
		all = append(all, number)
	}
	for number := range api.MaxLots {
		mustRecall(t, b, number, all[number:]...)
		mustGate(t, b, number, all[:number+1]...)
	}
	mustSuspect(t, b, nil, nil, all...)
	mustSuspect(t, b, all, nil, 0)
	mustSuspect(t, b, numbers(255), nil, all...)
	mustSuspect(t, b, numbers(255), numbers(63), all[64:]...)
	mustSuspect(t, b, numbers(255, 128), numbers(64), all[65:129]...)
	mustSuspect(t, b, nil, all)
	b = full(t)
	for number := range api.MaxLots {
		mustRecall(t, b, number, number)
		mustGate(t, b, number, number)
		mustSuspect(t, b, numbers(number), nil, number)
		mustSuspect(t, b, nil, slices.Delete(slices.Clone(all), number, number+1), number)
	}
}

func TestTracesOfNoLot(t *testing.T) {
	for _, b := range []*lots.Book{lots.New(), example(t)} {
		for _, number := range noLots(b) {
			if list, e := b.Recall(number); len(list) != 0 || e != api.ErrNone {
				t.Errorf("Recall(%d) = %v, %d", number, list, e)
			}
			if list, e := b.Gates(number); len(list) != 0 || e != api.ErrNone {
				t.Errorf("Gates(%d) = %v, %d", number, list, e)
			}
			for _, c := range [][2][]int{
				{numbers(number), nil}, {nil, numbers(number)},
				{numbers(0, 1, number), numbers(0)}, {numbers(number, 0), nil}, {numbers(0), numbers(1, number)},
			} {
				if list, e := b.Suspects(c[0], c[1]); len(list) != 0 || e != api.ErrNone {
					t.Errorf("Suspects(%v) = %v, %d", c, list, e)
				}
			}
		}
	}
}

func TestTracesInUnusableBook(t *testing.T) {
	for name, b := range unusable() {
		for _, number := range []int{0, -1, 256} {
			if list, e := b.Recall(number); len(list) != 0 || e != api.ErrUnusable {
				t.Errorf("%s: Recall = %v, %d", name, list, e)
			}
			if list, e := b.Gates(number); len(list) != 0 || e != api.ErrUnusable {
				t.Errorf("%s: Gates = %v, %d", name, list, e)
			}
			for _, bad := range [][]int{nil, {number}} {
				if list, e := b.Suspects(bad, nil); len(list) != 0 || e != api.ErrUnusable {
					t.Errorf("%s: Suspects = %v, %d", name, list, e)
				}
			}
		}
	}
}

func TestTracesLeaveTheirArguments(t *testing.T) {
	b := example(t)
	bad, good := numbers(3, 2, 3), numbers(1, 1)
	for range 2 {
		unchanged(t, b, func() {
			list, _ := b.Suspects(bad, good)
			clear(list)
			recalled, _ := b.Recall(0)
			clear(recalled)
			gates, _ := b.Gates(3)
			clear(gates)
		})
		mustSuspect(t, b, bad, good, 0, 2)
		mustRecall(t, b, 0, 0, 2, 3)
		mustGate(t, b, 3, 3)
	}
	if !slices.Equal(bad, numbers(3, 2, 3)) || !slices.Equal(good, numbers(1, 1)) {
		t.Errorf("the lists became %v and %v", bad, good)
	}
}

// some returns a few lots of a book that has lots.
func some(r *rand.Rand, b *lots.Book) []int {
	var list []int
	for range r.Intn(3) {
		list = append(list, r.Intn(b.Lots()))
	}
	return list
}

func TestRandomTraces(t *testing.T) {
	r := rand.New(rand.NewSource(93))
	found := 0
	for range 300 {
		w := random(t, r, 40, 1+r.Intn(20))
		for number := range w.model {
			mustRecall(t, w.Book, number, w.recall(number)...)
			mustGate(t, w.Book, number, w.gates(number)...)
			bad, good := some(r, w.Book), some(r, w.Book)
			want := w.suspects(bad, good)
			mustSuspect(t, w.Book, bad, good, want...)
			if len(bad) > 1 && len(good) > 0 && len(want) > 0 {
				found++
			}
		}
	}
	if found < 50 {
		t.Errorf("only %d times suspects", found)
	}
}
