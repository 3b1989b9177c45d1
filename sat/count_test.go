package sat_test

import (
	"math"
	"math/rand"
	"slices"
	"testing"

	"acrospire/api"
	"acrospire/sat"
)

// counted returns the clauses of AtMost and their number of variables, after checks of
// the sizes that the chapter allows.
func counted(t *testing.T, n int, literals []int, k int) ([][]int, int) {
	t.Helper()
	list, all, e := sat.AtMost(n, literals, k)
	least := min(k, len(literals))
	if e != api.OK || all < n || all > n+least*len(literals) || len(list) > 4*(least+1)*len(literals)+1 {
		t.Fatalf("AtMost(%d, %v, %d): %d variables, %d clauses, %d", n, literals, k, all, len(list), e)
	}
	for _, c := range list {
		if len(c) > api.MaxWidth || slices.ContainsFunc(c, func(l int) bool { return l == 0 || l < -all || l > all }) {
			t.Fatalf("AtMost(%d, %v, %d): the clause %v, %d variables", n, literals, k, c, all)
		}
	}
	return list, all
}

// units returns clauses that allow only one assignment of the first variables.
func units(values []bool) [][]int {
	var list [][]int
	for i, value := range values {
		if value {
			list = append(list, []int{i + 1})
		} else {
			list = append(list, []int{-i - 1})
		}
	}
	return list
}

// number returns how many literals are true.
func number(literals []int, values []bool) int {
	count := 0
	for _, l := range literals {
		if values[max(l, -l)-1] == (l > 0) {
			count++
		}
	}
	return count
}

// mustCount checks whether an assignment can be extended to a model.
func mustCount(t *testing.T, list [][]int, all int, literals []int, k int, values []bool) {
	t.Helper()
	formula := slices.Concat(list, units(values))
	v, e := sat.Solve(all, formula, api.MaxBudget)
	want := api.Refuted
	if number(literals, values) <= k {
		want = api.Satisfied
	}
	if e != api.OK || v.Status != want || sat.Check(all, formula, v) != api.OK {
		t.Fatalf("AtMost(%d, %v, %d), %v: %v, %d; want status %d", len(values), literals, k, values, v, e, want)
	}
}

func TestAtMostExample(t *testing.T) {
	list, all := counted(t, 2, []int{1, 2}, 1)
	for _, values := range assignments(2) {
		mustCount(t, list, all, []int{1, 2}, 1, values)
	}
}

// All lists of up to four literals of up to three variables.
func TestAtMostShortLists(t *testing.T) {
	lists := [][]int{{}}
	for start := 0; len(lists[start]) < 4; start++ {
		for _, literal := range []int{1, -1, 2, -2, 3, -3} {
			lists = append(lists, append(slices.Clone(lists[start]), literal))
		}
	}
	for _, literals := range lists {
		for k := range len(literals) + 2 {
			list, all := counted(t, 3, literals, k)
			for _, values := range assignments(3) {
				mustCount(t, list, all, literals, k, values)
			}
		}
	}
}

// Whether there is an extension is found here by trying all.
func TestAtMostByTrying(t *testing.T) {
	r := rand.New(rand.NewSource(40))
	for _, size := range [][2]int{{1, 1}, {2, 1}, {3, 1}, {3, 2}, {4, 2}, {5, 1}, {5, 2}, {6, 1}, {3, 0}, {3, 3}, {3, 9}} {
		literals := random(r, 3, 1, size[0], size[0])[0]
		list, all := counted(t, 3, literals, size[1])
		extended := make([]bool, 8)
		for bits, values := range assignments(all) {
			if holds(list, values) {
				extended[bits%8] = true
			}
		}
		for bits, values := range assignments(3) {
			if extended[bits] != (number(literals, values) <= size[1]) {
				t.Errorf("AtMost(3, %v, %d), %v: %t", literals, size[1], values, extended[bits])
			}
		}
	}
}

func TestAtMostLongLists(t *testing.T) {
	r := rand.New(rand.NewSource(41))
	for range 150 {
		n := 1 + r.Intn(64)
		literals := random(r, n, 1, 1, api.MaxWidth)[0]
		if r.Intn(3) == 0 {
			literals = rangeOf(1, n)
		}
		k := r.Intn(len(literals) + 1)
		if r.Intn(2) == 0 {
			k = r.Intn(4)
		}
		if n+k*len(literals) > api.MaxAtoms {
			continue
		}
		list, all := counted(t, n, literals, k)
		for range 4 {
			mustCount(t, list, all, literals, k, near(r, n, literals, k))
		}
	}
}

func rangeOf(from, to int) []int {
	var list []int
	for i := from; i <= to; i++ {
		list = append(list, i)
	}
	return list
}

// near returns an assignment that makes k or k + 1 of the literals true, or nearly so.
func near(r *rand.Rand, n int, literals []int, k int) []bool {
	values := make([]bool, n)
	for i := range values {
		values[i] = r.Intn(2) == 1
	}
	goal := k + r.Intn(2)
	for _, at := range r.Perm(n) {
		before := number(literals, values)
		values[at] = !values[at]
		if after := number(literals, values); max(after-goal, goal-after) > max(before-goal, goal-before) {
			values[at] = !values[at]
		}
	}
	return values
}

func TestAtMostNone(t *testing.T) {
	for n, literals := range [][]int{{}, {1}, {-1, 2}, {1, 2, -3}} {
		list, all := counted(t, n, literals, 0)
		if all != n {
			t.Errorf("AtMost(%d, %v, 0): %d variables", n, literals, all)
		}
		for _, values := range assignments(n) {
			mustCount(t, list, all, literals, 0, values)
		}
	}
	list, all := counted(t, 1, []int{1, -1}, 0)
	mustCount(t, list, all, []int{1, -1}, 0, []bool{true})
	mustCount(t, list, all, []int{1, -1}, 0, []bool{false})
	for _, literals := range [][]int{nil, {}} {
		for _, k := range []int{0, 1, math.MaxInt} {
			if list, all := counted(t, 0, literals, k); all != 0 || len(models(0, list)) != 1 {
				t.Errorf("AtMost(0, nil, %d) = %v, %d", k, list, all)
			}
		}
	}
}

func TestAtMostRepeatedLiterals(t *testing.T) {
	for k := range 6 {
		for _, literals := range [][]int{{1, 1, 1, 1}, {1, 1, 2, 2}, {1, -1, 1, -1}, {-2, 2, 2, 1}, {-1, -1, -1, 2}} {
			list, all := counted(t, 2, literals, k)
			for _, values := range assignments(2) {
				mustCount(t, list, all, literals, k, values)
			}
		}
	}
}

func TestAtMostLimits(t *testing.T) {
	fits := []struct{ n, length, k int }{
		{api.MaxAtoms, 0, math.MaxInt}, {api.MaxAtoms, api.MaxWidth, 0}, {api.MaxAtoms - 1, 1, 1}, {api.MaxAtoms - 1, 1, math.MaxInt},
		{api.MaxAtoms - 64, api.MaxWidth, 1}, {api.MaxAtoms - 64*63, api.MaxWidth, 63}, {1, 63, 64}, {1, 63, math.MaxInt}, {4096 - 63*63, 63, 63},
		{10, 4, math.MaxInt}, {10, 4, math.MaxInt / 2}, {10, 4, 1 << 62},
	}
	for _, f := range fits {
		literals := slices.Repeat([]int{f.n}, f.length)
		list, all := counted(t, f.n, literals, f.k)
		values := make([]bool, f.n)
		mustCount(t, list, all, literals, f.k, values)
		values[f.n-1] = true
		mustCount(t, list, all, literals, f.k, values)
	}
	full := []struct{ n, length, k int }{
		{api.MaxAtoms, 1, 1}, {api.MaxAtoms, 1, math.MaxInt}, {api.MaxAtoms - 63, api.MaxWidth, 1}, {api.MaxAtoms - 64*63 + 1, api.MaxWidth, 63},
		{1, api.MaxWidth, 64}, {1, api.MaxWidth, math.MaxInt}, {1, api.MaxWidth, 1 << 58}, {4096 - 63*63 + 1, 63, math.MaxInt},
	}
	for _, f := range full {
		if list, all, e := sat.AtMost(f.n, slices.Repeat([]int{-f.n}, f.length), f.k); e != api.ErrFull || len(list) != 0 || all != 0 {
			t.Errorf("AtMost(%v): %d, %d, %d", f, len(list), all, e)
		}
	}
}

func TestAtMostWrongArguments(t *testing.T) {
	refused := func(n int, literals []int, k int) {
		t.Helper()
		if list, all, e := sat.AtMost(n, literals, k); e != api.ErrArg || len(list) != 0 || all != 0 {
			t.Errorf("AtMost(%d, %.99v, %d) = %v, %d, %d", n, literals, k, list, all, e)
		}
	}
	for _, n := range []int{-1, api.MaxAtoms + 1, math.MaxInt, math.MinInt} {
		refused(n, nil, 0)
		refused(n, []int{1}, 1)
		refused(n, slices.Repeat([]int{1}, api.MaxWidth), math.MaxInt)
	}
	for _, literal := range []int{0, 4, -4, math.MaxInt, math.MinInt, math.MinInt + 1, 1 << 32} {
		refused(3, []int{literal}, 0)
		refused(3, []int{1, -2, literal}, 2)
		refused(3, []int{1, -2, literal}, 3)
	}
	refused(0, []int{1}, 1)
	for _, k := range []int{-1, math.MinInt} {
		refused(3, nil, k)
		refused(3, []int{1, 2}, k)
	}
	for _, k := range []int{0, 1, math.MaxInt} {
		refused(3, slices.Repeat([]int{1}, api.MaxWidth+1), k)
	}
	// ErrFull would apply, too.
	refused(api.MaxAtoms, append(rangeOf(1, 63), 0), math.MaxInt)
	refused(api.MaxAtoms, rangeOf(1, 65), math.MaxInt)
	refused(api.MaxAtoms, make([]int, 1<<16), math.MaxInt)
}

func TestAtMostLeavesItsArguments(t *testing.T) {
	literals := []int{1, -2, 3, 3}
	list, all := counted(t, 3, literals, 2)
	for _, c := range list {
		for k := range c {
			c[k] = 1000
		}
	}
	if !slices.Equal(literals, []int{1, -2, 3, 3}) {
		t.Errorf("the literals became %v", literals)
	}
	list, again := counted(t, 3, literals, 2)
	if again != all {
		t.Errorf("%d and %d variables", all, again)
	}
	for i, c := range list {
		for k := range c {
			c[k] = 1000 + i
		}
		list[i] = append(c, 1000+i)
	}
	for i, c := range list {
		if slices.ContainsFunc(c, func(literal int) bool { return literal != 1000+i }) {
			t.Fatalf("clause %d shares memory", i)
		}
	}
}
