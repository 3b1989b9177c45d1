package digest_test

import (
	"math"
	"math/rand"
	"testing"

	"acrospire/api"
)

func TestAt(t *testing.T) {
	d := mustAddAll(t, mustNew(t, 2, 1), 0, 1, 3, 1)
	mustBeAt(t, d, 0, 0, 3)
	mustBeAt(t, d, 1, 0, 3)
	d = mustAddAll(t, mustNew(t, 2, 1000), 0, 1, 3, 2)
	mustBeAt(t, d, 0, 0, 0)
	mustBeAt(t, d, 1, 3, 3)
	mustBeAt(t, d, 2, 3, 3)
	d = mustAddAll(t, mustNew(t, 20, 1000), 1<<20-1, 2, 0, 3, 77, 1)
	mustBeAt(t, d, 2, 0, 0)
	mustBeAt(t, d, 3, 77, 77)
	mustBeAt(t, d, 4, 1<<20-1, 1<<20-1)
}

func TestOrderOfRanks(t *testing.T) {
	// The root has the same greatest value as node 3, and comes after it.
	d := mustAddAll(t, mustNew(t, 2, 2), 0, 1, 1, 1, 3, 1, 3, 1)
	mustHave(t, d, 2, 2, nodes(1, 1, 2, 2, 3, 1))
	mustBeAt(t, d, 0, 0, 1)
	mustBeAt(t, d, 1, 0, 1)
	mustBeAt(t, d, 2, 2, 3)
	mustBeAt(t, d, 3, 0, 3)
	// The root comes after leaves with greater least values.
	d = mustAddAll(t, mustNew(t, 3, 4), 0, 1, 1, 1, 2, 1, 4, 1, 4, 8, 0, 8)
	mustHave(t, d, 3, 4, nodes(1, 4, 8, 8, 12, 8))
	mustBeAt(t, d, 7, 0, 0)
	mustBeAt(t, d, 8, 4, 4)
	mustBeAt(t, d, 15, 4, 4)
	mustBeAt(t, d, 16, 0, 7)
	mustBeAt(t, d, 19, 0, 7)
}

func TestAtRefuses(t *testing.T) {
	empty := mustNew(t, 3, 2)
	for _, rank := range []int{0, -1, 1, math.MaxInt, math.MinInt} {
		mustRefuseAt(t, empty, rank, api.ErrRange)
	}
	d := mustAddAll(t, empty, 5, 2, 1, 1)
	for _, rank := range []int{-1, 3, 4, 1 << 32, 1<<32 + 1, math.MaxInt, math.MinInt} {
		mustRefuseAt(t, d, rank, api.ErrRange)
	}
	full := mustAdd(t, empty, 5, api.MaxCount)
	mustBeAt(t, full, api.MaxCount-1, 5, 5)
	mustRefuseAt(t, full, api.MaxCount, api.ErrRange)
}

func TestBelow(t *testing.T) {
	d := mustAddAll(t, mustNew(t, 2, 1000), 0, 1, 3, 2)
	for value, want := range []int{0, 1, 1, 1, 3} {
		mustBeBelow(t, d, value, want, want)
	}
	d = mustAddAll(t, mustNew(t, 2, 2), 0, 1, 1, 1, 3, 1, 3, 1)
	mustHave(t, d, 2, 2, nodes(1, 1, 2, 2, 3, 1))
	for value, want := range [][2]int{{0, 0}, {0, 3}, {2, 3}, {2, 4}, {4, 4}} {
		mustBeBelow(t, d, value, want[0], want[1])
	}
	for value := range 5 {
		mustBeBelow(t, mustNew(t, 2, 1), value, 0, 0)
	}
	full := mustAdd(t, mustNew(t, 20, 1), 1<<20-1, api.MaxCount)
	mustBeBelow(t, full, 0, 0, 0)
	mustBeBelow(t, full, 1, 0, api.MaxCount)
	mustBeBelow(t, full, 1<<20, api.MaxCount, api.MaxCount)
}

func TestBelowRefuses(t *testing.T) {
	for _, levels := range []int{1, 2, 20} {
		d := mustNew(t, levels, 5)
		for _, value := range []int{-1, 1<<levels + 1, 2 << levels, -1 << levels, 1 << 32, math.MaxInt, math.MinInt} {
			mustRefuseBelow(t, d, value, api.ErrRange)
			mustRefuseBelow(t, mustAdd(t, d, 1, 4), value, api.ErrRange)
		}
	}
}

func TestRandomRanks(t *testing.T) {
	r := rand.New(rand.NewSource(125))
	for range 600 {
		levels := 1 + r.Intn(7)
		d, m := grow(t, r, levels, wildFactor(r), 1+r.Intn(50))
		for value := range 1<<levels + 1 {
			least, most := m.below(value)
			mustBeBelow(t, d, value, least, most)
		}
		// All ranks at which the answer can change, and others.
		ranks := []int{r.Intn(m.total()), r.Intn(m.total())}
		for value := range 1<<levels + 1 {
			least, most := m.below(value)
			ranks = append(ranks, least-1, least, most-1, most)
		}
		for _, rank := range ranks {
			if rank < 0 || rank >= m.total() {
				mustRefuseAt(t, d, rank, api.ErrRange)
				continue
			}
			least, greatest := m.at(rank)
			mustBeAt(t, d, rank, least, greatest)
		}
	}
}
