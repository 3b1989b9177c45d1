package digest_test

import (
	"math/rand"
	"slices"
	"testing"

	"acrospire/api"
	"acrospire/digest"
)

// The tests compare with a plain reading of the chapter: a model has a count for each node,
// a pass visits them all, and the values that were added are kept.
type model struct {
	levels, factor int
	counts         []int
	added          map[int]int
}

func newModel(levels, factor int) *model {
	return &model{levels, factor, make([]int, 2<<levels), map[int]int{}}
}

func (m *model) total() int {
	n := 0
	for _, count := range m.counts {
		n += count
	}
	return n
}

func (m *model) limit() int {
	return m.total() / m.factor
}

func (m *model) add(value, times int) {
	m.counts[1<<m.levels+value] += times
	m.added[value] += times
	m.compress()
}

func (m *model) merge(other *model) {
	for node, count := range other.counts {
		m.counts[node] += count
	}
	for value, times := range other.added {
		m.added[value] += times
	}
	m.compress()
}

func (m *model) compress() {
	limit := m.limit()
	for m.pass(limit) {
	}
}

func (m *model) pass(limit int) bool {
	changed := false
	for k := m.levels; k >= 1; k-- {
		for p := 1 << (k - 1); p < 1<<k; p++ {
			left, right := m.counts[2*p], m.counts[2*p+1]
			if sum := m.counts[p] + left + right; (left != 0 || right != 0) && sum <= limit {
				m.counts[p], m.counts[2*p], m.counts[2*p+1] = sum, 0, 0
				changed = true
			}
		}
	}
	return changed
}

func (m *model) nodes() []digest.Node {
	var list []digest.Node
	for node, count := range m.counts {
		if count != 0 {
			list = append(list, digest.Node{ID: node, Count: count})
		}
	}
	return list
}

// span returns the least and the greatest value of the range of a node.
func (m *model) span(node int) (int, int) {
	first, last := node, node
	for first < 1<<m.levels {
		first, last = 2*first, 2*last+1
	}
	return first - 1<<m.levels, last - 1<<m.levels
}

func (m *model) at(rank int) (int, int) {
	list := m.nodes()
	slices.SortFunc(list, func(a, b digest.Node) int {
		leastA, greatestA := m.span(a.ID)
		leastB, greatestB := m.span(b.ID)
		if greatestA != greatestB {
			return greatestA - greatestB
		}
		return (greatestA - leastA) - (greatestB - leastB)
	})
	sum := 0
	for _, node := range list {
		if sum += node.Count; sum > rank {
			return m.span(node.ID)
		}
	}
	panic("there is no such rank")
}

func (m *model) below(value int) (int, int) {
	least, most := 0, 0
	for _, node := range m.nodes() {
		first, last := m.span(node.ID)
		if last < value {
			least += node.Count
		}
		if first < value {
			most += node.Count
		}
	}
	return least, most
}

// less returns how many of the values that were added are less than a value.
func (m *model) less(value int) int {
	sum := 0
	for v, times := range m.added {
		if v < value {
			sum += times
		}
	}
	return sum
}

// nodes makes a list of pairs of a number and a count.
func nodes(pairs ...int) []digest.Node {
	var list []digest.Node
	for pair := range slices.Chunk(pairs, 2) {
		list = append(list, digest.Node{ID: pair[0], Count: pair[1]})
	}
	return list
}

func mustNew(t *testing.T, levels, factor int) digest.Digest {
	t.Helper()
	d, e := digest.New(levels, factor)
	if e != api.OK {
		t.Fatalf("New(%d, %d): %d", levels, factor, e)
	}
	return d
}

func mustAdd(t *testing.T, d digest.Digest, value, times int) digest.Digest {
	t.Helper()
	sum, e := d.Add(value, times)
	if e != api.OK {
		t.Fatalf("Add(%d, %d) to %v: %d", value, times, d.Nodes(), e)
	}
	return sum
}

// mustAddAll adds pairs of a value and how often it is added.
func mustAddAll(t *testing.T, d digest.Digest, pairs ...int) digest.Digest {
	t.Helper()
	for pair := range slices.Chunk(pairs, 2) {
		d = mustAdd(t, d, pair[0], pair[1])
	}
	return d
}

func mustMerge(t *testing.T, a, b digest.Digest) digest.Digest {
	t.Helper()
	sum, e := digest.Merge(a, b)
	if e != api.OK {
		t.Fatalf("Merge(%v, %v): %d", a.Nodes(), b.Nodes(), e)
	}
	return sum
}

// mustHave checks everything that can be seen of a digest apart from ranks.
func mustHave(t *testing.T, d digest.Digest, levels, factor int, want []digest.Node) {
	t.Helper()
	n := 0
	for _, node := range want {
		n += node.Count
	}
	if d.Levels() != levels || d.Factor() != factor || d.Count() != n || !slices.Equal(d.Nodes(), want) {
		t.Fatalf("levels %d, factor %d, %d values, nodes %v, want %d, %d, %d, %v",
			d.Levels(), d.Factor(), d.Count(), d.Nodes(), levels, factor, n, want)
	}
}

func mustEqual(t *testing.T, d digest.Digest, m *model) {
	t.Helper()
	mustHave(t, d, m.levels, m.factor, m.nodes())
}

func mustBeAt(t *testing.T, d digest.Digest, rank, least, greatest int) {
	t.Helper()
	if lo, hi, e := d.At(rank); lo != least || hi != greatest || e != api.OK {
		t.Fatalf("At(%d) of %v = %d, %d, %d, want %d, %d", rank, d.Nodes(), lo, hi, e, least, greatest)
	}
}

func mustBeBelow(t *testing.T, d digest.Digest, value, least, most int) {
	t.Helper()
	if a, b, e := d.Below(value); a != least || b != most || e != api.OK {
		t.Fatalf("Below(%d) of %v = %d, %d, %d, want %d, %d", value, d.Nodes(), a, b, e, least, most)
	}
}

func mustRefuseNew(t *testing.T, levels, factor int) {
	t.Helper()
	if d, e := digest.New(levels, factor); d != (digest.Digest{}) || e != api.ErrArg {
		t.Errorf("New(%d, %d) = %v, %d", levels, factor, d, e)
	}
}

func mustRefuseAdd(t *testing.T, d digest.Digest, value, times int, want api.Errno) {
	t.Helper()
	if sum, e := d.Add(value, times); sum != (digest.Digest{}) || e != want {
		t.Errorf("Add(%d, %d) = %v, %d, want %d", value, times, sum, e, want)
	}
}

func mustRefuseMerge(t *testing.T, a, b digest.Digest, want api.Errno) {
	t.Helper()
	if sum, e := digest.Merge(a, b); sum != (digest.Digest{}) || e != want {
		t.Errorf("Merge = %v, %d, want %d", sum, e, want)
	}
}

func mustRefuseAt(t *testing.T, d digest.Digest, rank int, want api.Errno) {
	t.Helper()
	if lo, hi, e := d.At(rank); lo != 0 || hi != 0 || e != want {
		t.Errorf("At(%d) = %d, %d, %d, want %d", rank, lo, hi, e, want)
	}
}

func mustRefuseBelow(t *testing.T, d digest.Digest, value int, want api.Errno) {
	t.Helper()
	if a, b, e := d.Below(value); a != 0 || b != 0 || e != want {
		t.Errorf("Below(%d) = %d, %d, %d, want %d", value, a, b, e, want)
	}
}

// wildFactor returns any factor; small ones are more likely.
func wildFactor(r *rand.Rand) int {
	return min(1+r.Intn(1<<r.Intn(11)), api.MaxFactor)
}

// wildTimes returns how often a value is added: mostly once, and sometimes very often.
func wildTimes(r *rand.Rand) int {
	if r.Intn(2) == 0 {
		return 1
	}
	return 1 + r.Intn(1<<r.Intn(1<<r.Intn(5)))
}

// values returns a function that returns random values of one kind: all of them, low ones,
// those near one value, or a few of them.
func values(r *rand.Rand, levels int) func() int {
	size := 1 << levels
	center, few := r.Intn(size), []int{r.Intn(size), r.Intn(size), r.Intn(size)}
	kind := r.Intn(4)
	return func() int {
		switch kind {
		case 0:
			return r.Intn(size)
		case 1:
			return r.Intn(1 << r.Intn(levels+1))
		case 2:
			return min(max(center+r.Intn(7)-r.Intn(7), 0), size-1)
		default:
			return few[r.Intn(3)]
		}
	}
}

// grow adds random values to a digest and to its model.
func grow(t *testing.T, r *rand.Rand, levels, factor, adds int) (digest.Digest, *model) {
	t.Helper()
	d, m := mustNew(t, levels, factor), newModel(levels, factor)
	next := values(r, levels)
	for range adds {
		value, times := next(), wildTimes(r)
		d = mustAdd(t, d, value, times)
		m.add(value, times)
	}
	return d, m
}
