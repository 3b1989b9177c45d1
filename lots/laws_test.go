package lots_test

import (
	"math"
	"math/rand"
	"slices"
	"testing"

	"acrospire/api"
	"acrospire/lots"
	"acrospire/num"
)

func sum(t *testing.T, f, g num.Rat) num.Rat {
	t.Helper()
	result, e := f.Add(g)
	if e != api.OK {
		t.Fatalf("%s plus %s: %d", f, g, e)
	}
	return result
}

func times(t *testing.T, f num.Rat, mass int) num.Rat {
	t.Helper()
	result, e := f.Mul(num.Of(mass))
	if e != api.OK {
		t.Fatalf("%s times %d: %d", f, mass, e)
	}
	return result
}

// books returns books of all kinds, among them ones that are as large as books can be.
func books(t *testing.T, seed int64) []*lots.Book {
	t.Helper()
	r := rand.New(rand.NewSource(seed))
	list := []*lots.Book{lots.New(), example(t), full(t), chain(t).Book, wide(t).Book}
	for range 60 {
		list = append(list, random(t, r, 60, 1+r.Intn(30)).Book, random(t, r, 60, api.MaxMass/8).Book)
	}
	return append(list, random(t, r, 500, 200).Book)
}

// sparse returns some of the lots of a large book, and all lots of others.
func sparse(b *lots.Book) []int {
	var list []int
	step := 1 + b.Lots()/40
	for number := 0; number < b.Lots(); number += step {
		list = append(list, number)
	}
	return list
}

func TestSharesAddUpToOne(t *testing.T) {
	for _, b := range books(t, 95) {
		for _, number := range sparse(b) {
			list, e := b.Shares(number)
			total := num.Of(0)
			for _, s := range list {
				total = sum(t, total, s.Part)
			}
			if total.Cmp(num.Of(1)) != 0 || e != api.OK {
				t.Fatalf("Shares(%d) = %s, %d", number, text(list), e)
			}
		}
	}
}

func TestMassesOfLotsAreKept(t *testing.T) {
	for _, b := range books(t, 96) {
		taken := make([]int, b.Lots())
		for number := range b.Lots() {
			list, _ := b.Parts(number)
			total := 0
			for _, p := range list {
				taken[p.Lot] += p.Mass
				total += p.Mass
			}
			if made, _, _, _, _ := b.Mass(number); len(list) > 0 && made != total {
				t.Fatalf("lot %d is made of %v, but has %d", number, list, made)
			}
		}
		for number, used := range taken {
			made, left, shipped, discarded, _ := b.Mass(number)
			if made != left+shipped+discarded+used || left < 0 {
				t.Fatalf("lot %d: %d, %d, %d, %d, and %d used", number, made, left, shipped, discarded, used)
			}
		}
	}
}

func TestMassesOfOriginsAreKept(t *testing.T) {
	for _, b := range books(t, 97) {
		found := map[int]num.Rat{}
		left, gone := map[int]num.Rat{}, map[int]num.Rat{}
		if b.Lots() > 200 {
			continue // the other tests compute the shares in large books
		}
		for number := range b.Lots() {
			_, rest, shipped, discarded, _ := b.Mass(number)
			list, _ := b.Shares(number)
			for _, s := range list {
				left[s.Lot] = sum(t, left[s.Lot], times(t, s.Part, rest))
				gone[s.Lot] = sum(t, gone[s.Lot], times(t, s.Part, shipped))
				found[s.Lot] = sum(t, found[s.Lot], times(t, s.Part, rest+shipped+discarded))
			}
		}
		for origin, mass := range found {
			if made, _, _, _, _ := b.Mass(origin); mass.Cmp(num.Of(made)) != 0 {
				t.Fatalf("of origin %d with %d there is %s", origin, made, mass)
			}
			mustExpose(t, b, origin, left[origin].String(), gone[origin].String())
		}
	}
}

func TestOriginsWithSharesAreContained(t *testing.T) {
	for _, b := range books(t, 98) {
		containers := map[int][]int{}
		for _, number := range sparse(b) {
			list, _ := b.Shares(number)
			for _, s := range list {
				containers[s.Lot] = append(containers[s.Lot], number)
				if p, _ := b.Parts(s.Lot); len(p) > 0 || s.Part.Sign() <= 0 {
					t.Fatalf("Shares(%d) = %s", number, text(list))
				}
			}
		}
		for number := range b.Lots() {
			if p, _ := b.Parts(number); len(p) > 0 {
				continue
			}
			list, _ := b.Recall(number)
			list = slices.DeleteFunc(list, func(other int) bool { return !slices.Contains(sparse(b), other) })
			if !slices.Equal(list, containers[number]) {
				t.Fatalf("Recall(%d) has %v, but the shares are in %v", number, list, containers[number])
			}
		}
	}
}

func TestGatesLieOnOnePath(t *testing.T) {
	for _, b := range books(t, 99) {
		for number := range b.Lots() {
			gates, _ := b.Gates(number)
			if !slices.IsSorted(gates) || gates[len(gates)-1] != number {
				t.Fatalf("Gates(%d) = %v", number, gates)
			}
			// They are on one path if each of them is contained in the next one.
			for i, gate := range gates[1:] {
				if recalled, _ := b.Recall(gates[i]); !slices.Contains(recalled, gate) {
					t.Fatalf("Gates(%d) = %v, but Recall(%d) = %v", number, gates, gates[i], recalled)
				}
			}
		}
	}
}

// avoids returns the lots that some origin reaches without a lot.
func avoids(b *lots.Book, without int) map[int]bool {
	reached := map[int]bool{}
	for number := range b.Lots() {
		list, _ := b.Parts(number)
		for _, p := range list {
			reached[number] = reached[number] || reached[p.Lot]
		}
		reached[number] = number != without && (reached[number] || len(list) == 0)
	}
	return reached
}

func TestOriginsAvoidWhatIsNoGate(t *testing.T) {
	for _, b := range books(t, 100) {
		for _, number := range sparse(b) {
			reached := avoids(b, number)
			recalled, _ := b.Recall(number)
			for _, other := range recalled {
				gates, _ := b.Gates(other)
				if slices.Contains(gates, number) == reached[other] {
					t.Fatalf("Gates(%d) = %v, but without %d it is reached: %t", other, gates, number, reached[other])
				}
			}
		}
	}
}

// All functions take all arguments.
func TestAnyArguments(t *testing.T) {
	r := rand.New(rand.NewSource(101))
	wild := []int{0, 1, 2, 3, 255, 256, -1, math.MaxInt, math.MinInt, api.MaxMass, api.MaxMass + 1, 1 << 62}
	books := []*lots.Book{nil, {}, lots.New(), example(t), full(t), wide(t).Book}
	number := func() int { return wild[r.Intn(len(wild))] }
	several := func() []int {
		var list []int
		for range r.Intn(20) / 4 {
			list = append(list, number())
		}
		return list
	}
	for range 5000 {
		b := books[r.Intn(len(books))]
		var list []api.Part
		for range r.Intn(4) {
			list = append(list, part(number(), number()))
		}
		b.Receive(number())
		b.Blend(list)
		b.Ship(number(), number())
		b.Discard(number(), number())
		b.Mass(number())
		b.Parts(number())
		b.Recall(number())
		b.Gates(number())
		b.Suspects(several(), several())
		b.Clone()
		if r.Intn(100) == 0 {
			b.Shares(number())
			b.Exposure(number())
		}
	}
	for _, b := range books[2:] {
		state(t, b)
	}
}
