package digest_test

import (
	"math"
	"math/rand"
	"testing"

	"acrospire/api"
	"acrospire/digest"
)

func TestAdd(t *testing.T) {
	one := mustAdd(t, mustNew(t, 2, 1), 0, 1)
	mustHave(t, one, 2, 1, nodes(1, 1))
	mustHave(t, mustAdd(t, one, 3, 1), 2, 1, nodes(1, 2))
	mustHave(t, mustAddAll(t, mustNew(t, 2, 1000), 0, 1, 3, 1, 3, 1), 2, 1000, nodes(4, 1, 7, 2))
	mustHave(t, mustAdd(t, mustNew(t, 1, 1), 1, 7), 1, 1, nodes(1, 7))
	mustHave(t, mustAdd(t, mustNew(t, 1, 2), 1, 7), 1, 2, nodes(3, 7))
}

func TestAllValuesHaveLeaves(t *testing.T) {
	for levels := 1; levels <= 8; levels++ {
		d := mustNew(t, levels, 1000)
		for value := range 1 << levels {
			mustHave(t, mustAdd(t, d, value, 3), levels, 1000, nodes(1<<levels+value, 3))
		}
	}
	for _, value := range []int{0, 1, 1 << 19, 1<<20 - 2, 1<<20 - 1} {
		mustHave(t, mustAdd(t, mustNew(t, 20, 1000), value, 1), 20, 1000, nodes(1<<20+value, 1))
	}
}

func TestCountsClimbUpToTheLimit(t *testing.T) {
	// The limit is 1: one value climbs to the root, and then there is no room in it.
	d := mustAddAll(t, mustNew(t, 2, 2), 0, 1)
	mustHave(t, d, 2, 2, nodes(4, 1))
	d = mustAdd(t, d, 1, 1)
	mustHave(t, d, 2, 2, nodes(4, 1, 5, 1))
	d = mustAdd(t, d, 3, 1)
	mustHave(t, d, 2, 2, nodes(1, 1, 4, 1, 5, 1))
	// The limit is 2: there is room for the two values above them, but not in the root.
	d = mustAdd(t, d, 3, 1)
	mustHave(t, d, 2, 2, nodes(1, 1, 2, 2, 3, 1))
	// What is in the inner nodes stays there, and the next one is for the root again.
	d = mustAdd(t, d, 3, 1)
	mustHave(t, d, 2, 2, nodes(1, 1, 2, 2, 3, 2))
	d = mustAdd(t, d, 0, 1)
	mustHave(t, d, 2, 2, nodes(1, 1, 2, 3, 3, 2))
	d = mustAdd(t, d, 0, 1)
	mustHave(t, d, 2, 2, nodes(1, 1, 2, 3, 3, 2, 4, 1))
}

func TestCountsClimbFromTheLowestLevel(t *testing.T) {
	// The limit is 1. Both counts climb through several levels, and stop where they meet.
	d := mustAddAll(t, mustNew(t, 4, 2), 9, 1)
	mustHave(t, mustAdd(t, d, 15, 1), 4, 2, nodes(6, 1, 7, 1))
	mustHave(t, mustAdd(t, d, 0, 1), 4, 2, nodes(2, 1, 3, 1))
	// One alone climbs to the root.
	mustHave(t, mustAdd(t, mustNew(t, 4, 1), 0, 1), 4, 1, nodes(1, 1))
	mustHave(t, mustAdd(t, mustNew(t, 4, 1), 15, 1), 4, 1, nodes(1, 1))
}

func TestRoomThatAPassLeaves(t *testing.T) {
	// The limit is 2. Node 6 cannot climb to node 3 until this one has climbed to the root.
	d := mustAddAll(t, mustNew(t, 2, 2), 2, 1, 1, 1)
	mustHave(t, d, 2, 2, nodes(2, 1, 3, 1))
	mustHave(t, mustAdd(t, d, 2, 2), 2, 2, nodes(1, 2, 3, 2))
	// The limit is 4. Node 3 climbs in the first pass, 6 in the second, 12 in the third one.
	d = mustAddAll(t, mustNew(t, 3, 2), 1, 2, 5, 2, 4, 3)
	mustHave(t, d, 3, 2, nodes(2, 2, 3, 2, 6, 3))
	mustHave(t, mustAdd(t, d, 4, 2), 3, 2, nodes(1, 4, 3, 3, 6, 2))
}

func TestAddRefuses(t *testing.T) {
	for _, levels := range []int{1, 2, 20} {
		d := mustNew(t, levels, 3)
		full := mustAdd(t, d, 1, api.MaxCount)
		for _, value := range []int{-1, 1 << levels, 1<<levels + 1, 2 << levels, -1 << levels, 1 << 32, math.MaxInt, math.MinInt} {
			mustRefuseAdd(t, d, value, 1, api.ErrArg)
			mustRefuseAdd(t, d, value, 0, api.ErrArg)
			mustRefuseAdd(t, d, value, api.MaxCount+1, api.ErrArg)
			mustRefuseAdd(t, full, value, 1, api.ErrArg)
		}
		for _, times := range []int{0, -1, math.MinInt} {
			mustRefuseAdd(t, d, 0, times, api.ErrArg)
			mustRefuseAdd(t, full, 0, times, api.ErrArg)
		}
		mustHave(t, d, levels, 3, nil)
	}
}

func TestFullDigests(t *testing.T) {
	d := mustNew(t, 2, 1)
	for _, times := range []int{api.MaxCount + 1, 1 << 41, math.MaxInt - 1, math.MaxInt} {
		mustRefuseAdd(t, d, 0, times, api.ErrFull)
		mustRefuseAdd(t, mustAdd(t, d, 0, 5), 0, times, api.ErrFull)
	}
	mustHave(t, mustAdd(t, d, 2, 1<<40), 2, 1, nodes(1, 1<<40))
	mustRefuseAdd(t, mustAdd(t, d, 2, 1<<40), 2, 1, api.ErrFull)
	almost := mustAdd(t, mustNew(t, 2, 1000), 2, 1<<40-5)
	mustHave(t, mustAdd(t, almost, 0, 5), 2, 1000, nodes(1, 5, 6, 1<<40-5))
	mustRefuseAdd(t, almost, 0, 6, api.ErrFull)
	mustHave(t, almost, 2, 1000, nodes(6, 1<<40-5))
}

func TestMerge(t *testing.T) {
	a := mustAddAll(t, mustNew(t, 2, 1000), 0, 1, 3, 2)
	b := mustAddAll(t, mustNew(t, 2, 1000), 3, 5, 1, 1)
	mustHave(t, mustMerge(t, a, b), 2, 1000, nodes(4, 1, 5, 1, 7, 7))
	mustHave(t, mustMerge(t, a, a), 2, 1000, nodes(4, 2, 7, 4))
	empty := mustNew(t, 2, 1000)
	mustHave(t, mustMerge(t, a, empty), 2, 1000, a.Nodes())
	mustHave(t, mustMerge(t, empty, a), 2, 1000, a.Nodes())
	mustHave(t, mustMerge(t, empty, empty), 2, 1000, nil)
	// Neither of them has counts that can climb, but together they have.
	half := mustAdd(t, mustNew(t, 2, 2), 0, 1)
	mustHave(t, half, 2, 2, nodes(4, 1))
	mustHave(t, mustMerge(t, half, mustAdd(t, mustNew(t, 2, 2), 3, 1)), 2, 2, nodes(2, 1, 3, 1))
	mustHave(t, mustMerge(t, half, half), 2, 2, nodes(4, 2))
}

func TestMergeRefuses(t *testing.T) {
	full := mustAdd(t, mustNew(t, 3, 7), 1, api.MaxCount)
	for _, other := range []digest.Digest{mustNew(t, 2, 7), mustNew(t, 4, 7), mustNew(t, 3, 6), mustNew(t, 3, 8),
		mustNew(t, 7, 3), mustAdd(t, mustNew(t, 2, 7), 1, api.MaxCount), mustAdd(t, mustNew(t, 3, 8), 1, 1)} {
		mustRefuseMerge(t, full, other, api.ErrArg)
		mustRefuseMerge(t, other, full, api.ErrArg)
	}
	mustRefuseMerge(t, full, mustAdd(t, mustNew(t, 3, 7), 2, 1), api.ErrFull)
	mustRefuseMerge(t, mustAdd(t, mustNew(t, 3, 7), 2, 1), full, api.ErrFull)
	mustRefuseMerge(t, full, full, api.ErrFull)
	mustHave(t, mustMerge(t, full, mustNew(t, 3, 7)), 3, 7, full.Nodes())
	half := mustAdd(t, mustNew(t, 3, 7), 5, 1<<39)
	mustHave(t, mustMerge(t, half, half), 3, 7, nodes(13, 1<<40))
	mustRefuseMerge(t, half, mustAdd(t, half, 0, 1), api.ErrFull)
}

func TestRandomAdds(t *testing.T) {
	r := rand.New(rand.NewSource(121))
	for range 1500 {
		levels, factor := 1+r.Intn(7), wildFactor(r)
		d, m := mustNew(t, levels, factor), newModel(levels, factor)
		next := values(r, levels)
		for range 60 {
			value, times := next(), wildTimes(r)
			d = mustAdd(t, d, value, times)
			m.add(value, times)
			mustEqual(t, d, m)
		}
	}
}

func TestRandomAddsWithManyLevels(t *testing.T) {
	r := rand.New(rand.NewSource(122))
	for _, levels := range []int{12, 14, 16, 18, 20} {
		for _, factor := range []int{1, 3, 20, wildFactor(r)} {
			d, m := grow(t, r, levels, factor, 25)
			mustEqual(t, d, m)
		}
	}
}

// TestManyAdds lets the limit increase slowly, while there are many nodes.
func TestManyAdds(t *testing.T) {
	r := rand.New(rand.NewSource(123))
	for _, factor := range []int{40, 100, 300} {
		d, m := mustNew(t, 10, factor), newModel(10, factor)
		for range 1500 {
			value := r.Intn(1 << 10)
			d = mustAdd(t, d, value, 1)
			m.add(value, 1)
			mustEqual(t, d, m)
		}
	}
}

func TestRandomMerges(t *testing.T) {
	r := rand.New(rand.NewSource(124))
	for range 1500 {
		levels, factor := 1+r.Intn(9), wildFactor(r)
		a, m := grow(t, r, levels, factor, r.Intn(40))
		b, other := grow(t, r, levels, factor, r.Intn(40))
		m.merge(other)
		sum := mustMerge(t, a, b)
		mustEqual(t, sum, m)
		value := r.Intn(1 << levels)
		m.add(value, 1)
		mustEqual(t, mustAdd(t, sum, value, 1), m)
	}
}
