package digest_test

import (
	"math/rand"
	"slices"
	"testing"

	"acrospire/api"
	"acrospire/digest"
)

// cases calls a function for digests of all kinds, with the values that were added. Every
// second one was merged.
func cases(t *testing.T, seed int64, check func(r *rand.Rand, d digest.Digest, m *model)) {
	t.Helper()
	r := rand.New(rand.NewSource(seed))
	for range 600 {
		levels, factor := 1+r.Intn(9), wildFactor(r)
		d, m := grow(t, r, levels, factor, 1+r.Intn(100))
		check(r, d, m)
		other, n := grow(t, r, levels, factor, r.Intn(100))
		m.merge(n)
		check(r, mustMerge(t, d, other), m)
	}
}

func TestNothingIsLost(t *testing.T) {
	cases(t, 126, func(r *rand.Rand, d digest.Digest, m *model) {
		sum, added := 0, m.less(1<<m.levels)
		for _, node := range d.Nodes() {
			sum += node.Count
		}
		if sum != added || d.Count() != added {
			t.Fatalf("%d values in %v, and Count is %d, but %d were added", sum, d.Nodes(), d.Count(), added)
		}
	})
}

func TestErrorOfBelow(t *testing.T) {
	cases(t, 127, func(r *rand.Rand, d digest.Digest, m *model) {
		most := m.levels * (d.Count() / m.factor)
		for value := range 1<<m.levels + 1 {
			a, b, e := d.Below(value)
			if less := m.less(value); e != api.OK || less < a || less > b || b-a > most {
				t.Fatalf("Below(%d) of %v = %d, %d, %d, but %d of the values are less", value, d.Nodes(), a, b, e, less)
			}
		}
	})
}

func TestErrorOfAt(t *testing.T) {
	cases(t, 128, func(r *rand.Rand, d digest.Digest, m *model) {
		ranks := []int{0, d.Count() - 1}
		for range 50 {
			ranks = append(ranks, r.Intn(d.Count()), min(r.Intn(20), d.Count()-1))
		}
		for _, rank := range ranks {
			lo, hi, e := d.At(rank)
			most := rank + m.levels*(d.Count()/m.factor)
			if e != api.OK || m.less(hi+1) <= rank || m.less(lo) > most {
				t.Fatalf("At(%d) of %v = %d, %d, %d", rank, d.Nodes(), lo, hi, e)
			}
		}
	})
}

func mustBeSmall(t *testing.T, d digest.Digest) {
	t.Helper()
	if len(d.Nodes()) > 4*d.Factor() {
		t.Fatalf("%d nodes, but the factor is %d", len(d.Nodes()), d.Factor())
	}
	for _, node := range d.Nodes() {
		if node.ID < 1<<d.Levels() && node.Count > d.Count()/d.Factor() || node.Count < 1 {
			t.Fatalf("node %d has the count %d", node.ID, node.Count)
		}
	}
}

func TestSize(t *testing.T) {
	cases(t, 129, func(r *rand.Rand, d digest.Digest, m *model) {
		mustBeSmall(t, d)
	})
}

// TestLargeDigests checks digests that have as many different values as time permits.
func TestLargeDigests(t *testing.T) {
	r := rand.New(rand.NewSource(130))
	for _, factor := range []int{1, 2, 30, 1000} {
		a, b, less := mustNew(t, 20, factor), mustNew(t, 20, factor), 0
		middle := 1 << 19
		for range 4000 {
			one, two := r.Intn(1<<20), r.Intn(1<<r.Intn(21))
			a, b = mustAdd(t, a, one, 1), mustAdd(t, b, two, 1)
			mustBeSmall(t, a)
			mustBeSmall(t, b)
			for _, value := range []int{one, two} {
				if value < middle {
					less++
				}
			}
		}
		sum := mustMerge(t, a, b)
		mustBeSmall(t, sum)
		least, most, e := sum.Below(middle)
		if e != api.OK || less < least || less > most || most-least > 20*(8000/factor) {
			t.Fatalf("Below(%d) = %d, %d, %d, but %d of the values are less", middle, least, most, e, less)
		}
	}
}

func TestMergeIsCommutative(t *testing.T) {
	r := rand.New(rand.NewSource(131))
	for range 1000 {
		levels, factor := 1+r.Intn(9), wildFactor(r)
		a, _ := grow(t, r, levels, factor, r.Intn(80))
		b, _ := grow(t, r, levels, factor, r.Intn(80))
		mustHave(t, mustMerge(t, a, b), levels, factor, mustMerge(t, b, a).Nodes())
	}
}

func TestDigestsNeverChange(t *testing.T) {
	cases(t, 132, func(r *rand.Rand, d digest.Digest, m *model) {
		again := d
		list := d.Nodes()
		clear(list)
		mustEqual(t, d, m)
		value := r.Intn(1 << m.levels)
		sum := mustAdd(t, d, value, 1+r.Intn(5))
		mustMerge(t, d, sum)
		mustMerge(t, sum, d)
		mustMerge(t, d, d)
		d.Below(value)
		d.At(0)
		mustEqual(t, d, m)
		// What is done with one result changes no other one.
		other := mustAdd(t, d, 0, 9)
		before := other.Nodes()
		mustAdd(t, sum, 0, 4)
		mustAdd(t, other, 0, 4)
		mustMerge(t, other, sum)
		mustEqual(t, again, m)
		if !slices.Equal(other.Nodes(), before) {
			t.Fatalf("%v became %v", before, other.Nodes())
		}
	})
}
