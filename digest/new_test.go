package digest_test

import (
	"math"
	"testing"

	"acrospire/api"
	"acrospire/digest"
)

func TestNew(t *testing.T) {
	for levels := 1; levels <= 20; levels++ {
		for _, factor := range []int{1, 2, 999, 1000} {
			mustHave(t, mustNew(t, levels, factor), levels, factor, nil)
		}
	}
	for factor := 1; factor <= 1000; factor++ {
		mustHave(t, mustNew(t, 7, factor), 7, factor, nil)
	}
}

func TestNewRefuses(t *testing.T) {
	for _, levels := range []int{0, -1, 21, 22, 64, 1 << 32, 1<<32 + 1, math.MaxInt, math.MinInt} {
		mustRefuseNew(t, levels, 1)
		mustRefuseNew(t, levels, 1000)
		mustRefuseNew(t, levels, 0)
	}
	for _, factor := range []int{0, -1, 1001, 1002, 1 << 32, 1<<32 + 1, math.MaxInt, math.MinInt} {
		mustRefuseNew(t, 1, factor)
		mustRefuseNew(t, 20, factor)
	}
}

func TestNodesAreInOrder(t *testing.T) {
	d := mustAddAll(t, mustNew(t, 3, 1000), 7, 1, 2, 5, 0, 2, 4, 1, 2, 1)
	mustHave(t, d, 3, 1000, nodes(8, 2, 10, 6, 12, 1, 15, 1))
	// The nodes of all levels have counts.
	d = mustAddAll(t, mustNew(t, 3, 4), 0, 1, 1, 1, 2, 1, 4, 1, 4, 8, 0, 8)
	mustHave(t, d, 3, 4, nodes(1, 4, 8, 8, 12, 8))
}

func unusable(t *testing.T) []digest.Digest {
	t.Helper()
	refused, _ := digest.New(0, 1)
	full, _ := mustAdd(t, mustNew(t, 2, 1), 0, api.MaxCount).Add(0, 1)
	none, _ := digest.Merge(mustNew(t, 2, 1), mustNew(t, 2, 2))
	return []digest.Digest{{}, refused, full, none}
}

func TestUnusableDigests(t *testing.T) {
	fine := mustAdd(t, mustNew(t, 2, 1), 0, 1)
	for _, d := range unusable(t) {
		if d.Levels() != 0 || d.Factor() != 0 || d.Count() != 0 || len(d.Nodes()) != 0 {
			t.Errorf("%d levels, factor %d, %d values, nodes %v", d.Levels(), d.Factor(), d.Count(), d.Nodes())
		}
		for _, n := range []int{0, 1, -1, math.MaxInt, math.MinInt} {
			mustRefuseAdd(t, d, n, 1, api.ErrUnusable)
			mustRefuseAdd(t, d, 0, n, api.ErrUnusable)
			mustRefuseAt(t, d, n, api.ErrUnusable)
			mustRefuseBelow(t, d, n, api.ErrUnusable)
		}
		mustRefuseMerge(t, d, fine, api.ErrUnusable)
		mustRefuseMerge(t, fine, d, api.ErrUnusable)
		mustRefuseMerge(t, d, d, api.ErrUnusable)
	}
}
