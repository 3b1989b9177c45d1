package lp_test

import (
	"math"
	"math/big"
	"math/rand"
	"reflect"
	"slices"
	"testing"

	"acrospire/api"
	"acrospire/lp"
	"acrospire/num"
)

// An entry is an answer as text.
type entry struct {
	why       string
	status    int
	value     string
	x, y, ray string
}

func (e entry) answer(t *testing.T) lp.Answer {
	t.Helper()
	return lp.Answer{Status: e.status, Value: fraction(t, e.value), X: fractions(t, e.x), Y: fractions(t, e.y), Ray: fractions(t, e.ray)}
}

// mustPass checks that answers are right.
func mustPass(t *testing.T, p api.Program, list []entry) {
	t.Helper()
	for _, e := range list {
		if err := lp.Check(p, e.answer(t)); err != api.OK {
			t.Errorf("%v, %v: Check = %d, but the answer is right", p, e, err)
		}
	}
}

// mustFail checks that answers are not right.
func mustFail(t *testing.T, p api.Program, list []entry) {
	t.Helper()
	for _, e := range list {
		if err := lp.Check(p, e.answer(t)); err != api.ErrAnswer {
			t.Errorf("%v, %v: Check = %d, but the answer is wrong", p, e, err)
		}
	}
}

func TestCheckOptimum(t *testing.T) {
	p := program(t, "3 2", "1 1,1 3", "4 6")
	mustPass(t, p, []entry{{"", 1, "12", "4 0", "3 0", ""}})
	mustFail(t, p, []entry{
		{"no status", 0, "12", "4 0", "3 0", ""},
		{"another status", 2, "12", "4 0", "3 0", ""},
		{"another status", 3, "12", "4 0", "3 0", ""},
		{"no such status", 4, "12", "4 0", "3 0", ""},
		{"no such status", -1, "12", "4 0", "3 0", ""},
		{"no such status", 257, "12", "4 0", "3 0", ""},
		{"no such status", math.MinInt, "12", "4 0", "3 0", ""},
		{"X too short", 1, "12", "4", "3 0", ""},
		{"X too long", 1, "12", "4 0 0", "3 0", ""},
		{"no X", 1, "12", "", "3 0", ""},
		{"Y too short", 1, "12", "4 0", "3", ""},
		{"Y too long", 1, "12", "4 0", "3 0 0", ""},
		{"no Y", 1, "12", "4 0", "", ""},
		{"Ray is not empty", 1, "12", "4 0", "3 0", "0"},
		{"Ray is not empty", 1, "12", "4 0", "3 0", "0 0"},
		{"the value is off", 1, "13", "4 0", "3 0", ""},
		{"the value is off", 1, "11", "4 0", "3 0", ""},
		{"the value is off", 1, "-12", "4 0", "3 0", ""},
		{"the value is off", 1, "0", "4 0", "3 0", ""},
		{"the value is off", 1, "1000000000000000000000001/83333333333333333333333", "4 0", "3 0", ""},
		{"X is not the greatest", 1, "12", "3 1", "3 0", ""},
		{"X is not the greatest", 1, "11", "3 1", "3 0", ""},
		{"Y is not the least", 1, "12", "4 0", "3 1", ""},
		{"Y is not the least", 1, "18", "4 0", "3 1", ""},
		{"X is no solution", 1, "13", "13/3 0", "3 1/6", ""},
	})
}

func TestCheckOptimumInOneRespect(t *testing.T) {
	p := program(t, "0", "1", "1")
	mustPass(t, p, []entry{{"", 1, "0", "0", "0", ""}, {"", 1, "0", "1", "0", ""}, {"", 1, "0", "1/3", "0", ""}})
	mustFail(t, p, []entry{
		{"X is negative", 1, "0", "-1", "0", ""},
		{"X is a little negative", 1, "0", "-1/1000000000000000000000", "0", ""},
		{"X is too great", 1, "0", "2", "0", ""},
		{"X is a little too great", 1, "0", "1000000000000000000001/1000000000000000000000", "0", ""},
	})
	// A bound that the gain does not depend on.
	q := program(t, "-1 0", "0 1,0 -1,1 0", "7 -3 9")
	mustPass(t, q, []entry{{"", 1, "0", "0 3", "0 0 0", ""}, {"", 1, "0", "0 7", "0 0 0", ""}})
	mustFail(t, q, []entry{{"X breaks a row", 1, "0", "0 8", "0 0 0", ""}, {"X breaks a row", 1, "0", "0 2", "0 0 0", ""}})

	s := program(t, "0", "1,1", "0 0")
	mustPass(t, s, []entry{{"", 1, "0", "0", "0 0", ""}, {"", 1, "0", "0", "1 2", ""}})
	mustFail(t, s, []entry{{"Y is negative", 1, "0", "0", "1 -1", ""}, {"Y is negative", 1, "0", "0", "-1 1", ""}})

	u := program(t, "1 2", "1 1", "0")
	mustPass(t, u, []entry{{"", 1, "0", "0 0", "2", ""}, {"", 1, "0", "0 0", "5/2", ""}})
	mustFail(t, u, []entry{{"a column is too small", 1, "0", "0 0", "1", ""}, {"a column is too small", 1, "0", "0 0", "0", ""}})

	v := program(t, "1", "1", "1")
	mustPass(t, v, []entry{{"", 1, "1", "1", "1", ""}})
	mustFail(t, v, []entry{
		{"only X is off", 1, "1", "0", "1", ""},
		{"only Y is off", 1, "1", "1", "2", ""},
		{"only the value is off", 1, "2", "1", "1", ""},
		{"X and the value are off", 1, "0", "0", "1", ""},
		{"Y and the value are off", 1, "2", "1", "2", ""},
	})
}

func TestCheckInfeasible(t *testing.T) {
	p := program(t, "0", "1,-1", "1 -2")
	mustPass(t, p, []entry{{"", 2, "0", "", "1 1", ""}, {"", 2, "0", "", "7/3 7/3", ""}, {"", 2, "0", "", "3/2 1", ""}})
	mustFail(t, p, []entry{
		{"another status", 1, "0", "", "1 1", ""},
		{"another status", 3, "0", "", "1 1", ""},
		{"no such status", 0, "0", "", "1 1", ""},
		{"X is not empty", 2, "0", "0", "1 1", ""},
		{"X is not empty", 2, "0", "1", "1 1", ""},
		{"Ray is not empty", 2, "0", "", "1 1", "0"},
		{"the value is not 0", 2, "1", "", "1 1", ""},
		{"the value is not 0", 2, "-1", "", "1 1", ""},
		{"the value is not 0", 2, "1/7", "", "1 1", ""},
		{"Y too short", 2, "0", "", "1", ""},
		{"Y too long", 2, "0", "", "1 1 0", ""},
		{"no Y", 2, "0", "", "", ""},
		{"a sum is negative", 2, "0", "", "0 1", ""},
		{"a sum is a little negative", 2, "0", "", "1 1000000000000000000001/1000000000000000000000", ""},
		{"the bounds allow it", 2, "0", "", "0 0", ""},
		{"the bounds allow it", 2, "0", "", "2 1", ""},
		{"the bounds allow it", 2, "0", "", "3 1", ""},
	})
	mustFail(t, program(t, "0", "-1", "1"), []entry{{"Y is negative", 2, "0", "", "-1", ""}})
	mustPass(t, program(t, "5 5", "1 0,-1 -1,0 1", "1 -5 2"), []entry{{"", 2, "0", "", "1 1 1", ""}})
	mustFail(t, program(t, "5 5", "1 0,-1 -1,0 1", "1 -5 2"), []entry{{"the second sum is negative", 2, "0", "", "1 1 0", ""}})
	mustPass(t, program(t, "", ",", "0 -1"), []entry{{"", 2, "0", "", "0 1", ""}, {"", 2, "0", "", "5 1", ""}})
	mustFail(t, program(t, "", "", ""), []entry{{"the bounds allow it", 2, "0", "", "", ""}})
}

func TestCheckUnbounded(t *testing.T) {
	p := program(t, "1 0", "-1 0,0 1", "0 2")
	mustPass(t, p, []entry{
		{"", 3, "0", "0 0", "", "1 0"}, {"", 3, "0", "0 0", "", "3/7 0"}, {"", 3, "0", "9 2", "", "1 0"}, {"", 3, "0", "9 2/9", "", "100 0"},
	})
	mustFail(t, p, []entry{
		{"another status", 1, "0", "0 0", "", "1 0"},
		{"another status", 2, "0", "0 0", "", "1 0"},
		{"no such status", 4, "0", "0 0", "", "1 0"},
		{"Y is not empty", 3, "0", "0 0", "0 0", "1 0"},
		{"Y is not empty", 3, "0", "0 0", "0", "1 0"},
		{"the value is not 0", 3, "1", "0 0", "", "1 0"},
		{"the value is that of X", 3, "9", "9 2", "", "1 0"},
		{"the value is not 0", 3, "-1/2", "0 0", "", "1 0"},
		{"X too short", 3, "0", "0", "", "1 0"},
		{"X too long", 3, "0", "0 0 0", "", "1 0"},
		{"no X", 3, "0", "", "", "1 0"},
		{"X is no solution", 3, "0", "0 3", "", "1 0"},
		{"X is negative", 3, "0", "0 -1", "", "1 0"},
		{"Ray too short", 3, "0", "0 0", "", "1"},
		{"Ray too long", 3, "0", "0 0", "", "1 0 0"},
		{"no Ray", 3, "0", "0 0", "", ""},
		{"Ray is negative", 3, "0", "0 0", "", "1 -1"},
		{"Ray leaves the solutions", 3, "0", "0 0", "", "1 1"},
		{"Ray leaves the solutions slowly", 3, "0", "0 0", "", "1 1/1000000000000000000000"},
		{"Ray yields nothing", 3, "0", "0 0", "", "0 0"},
	})
	// A ray from a vertex where no row is slack, and one that does not exist.
	mustFail(t, program(t, "1", "1", "5"), []entry{{"Ray leaves the solutions", 3, "0", "0", "", "1"}})
	mustFail(t, program(t, "-1", "", ""), []entry{
		{"Ray yields a loss", 3, "0", "0", "", "1"}, {"Ray is negative", 3, "0", "0", "", "-1"}, {"Ray yields nothing", 3, "0", "0", "", "0"},
	})
	mustPass(t, program(t, "1", "", ""), []entry{{"", 3, "0", "5", "", "1"}})
	mustFail(t, program(t, "1", "", ""), []entry{{"X is negative", 3, "0", "-5", "", "1"}})
	mustFail(t, program(t, "1", "-1", "-3"), []entry{{"X is no solution", 3, "0", "2", "", "1"}})
}

// mersenne returns the greatest number of so many binary digits, as a numeral.
func mersenne(digits uint) string {
	n := new(big.Int).Lsh(big.NewInt(1), digits)
	return n.Sub(n, big.NewInt(1)).String()
}

// powerOfTwo returns the least number of one more binary digit.
func powerOfTwo(exponent uint) string {
	return new(big.Int).Lsh(big.NewInt(1), exponent).String()
}

// A fraction has at most 512 binary digits above and below.
func TestCheckLongFractions(t *testing.T) {
	fits := []string{mersenne(512), powerOfTwo(511), "1/" + mersenne(512), "1/" + powerOfTwo(511), mersenne(512) + "/" + powerOfTwo(511)}
	long := []string{powerOfTwo(512), mersenne(513), "1/" + powerOfTwo(512), "1/" + mersenne(513), mersenne(513) + "/" + powerOfTwo(511),
		mersenne(511) + "/" + powerOfTwo(512), mersenne(16384), "1/" + mersenne(16384)}
	places := []struct {
		p    api.Program
		make func(f string) entry
	}{
		{program(t, "0", "", ""), func(f string) entry { return entry{"X", 1, "0", f, "", ""} }},
		{program(t, "0 0", "", ""), func(f string) entry { return entry{"second X", 1, "0", "0 " + f, "", ""} }},
		{program(t, "-1", "1", "0"), func(f string) entry { return entry{"Y", 1, "0", "0", f, ""} }},
		{program(t, "-1", "1,1", "0 0"), func(f string) entry { return entry{"second Y", 1, "0", "0", "0 " + f, ""} }},
		{program(t, "", "", "-1"), func(f string) entry { return entry{"Y of a contradiction", 2, "0", "", f, ""} }},
		{program(t, "1", "", ""), func(f string) entry { return entry{"X before Ray", 3, "0", f, "", "1"} }},
		{program(t, "1", "", ""), func(f string) entry { return entry{"Ray", 3, "0", "0", "", f} }},
	}
	places[4].p.A = [][]int{nil}
	for _, place := range places {
		for _, f := range fits {
			mustPass(t, place.p, []entry{place.make(f)})
		}
		for _, f := range long {
			mustFail(t, place.p, []entry{place.make(f)})
		}
	}
	for _, f := range slices.Concat(fits, long) {
		mustFail(t, program(t, "0", "", ""), []entry{{"Value", 1, f, "0", "", ""}})
		mustFail(t, program(t, "1", "", ""), []entry{{"Value", 3, f, "0", "", "1"}})
	}
}

// Sums of long fractions are compared exactly.
func TestCheckSumsOfLongFractions(t *testing.T) {
	p := program(t, "0 0", "1 1", "1")
	below, d, e := powerOfTwo(510), mersenne(511), powerOfTwo(511)
	rest := func(den string) string {
		n, _ := new(big.Int).SetString(den, 10)
		return n.Sub(n, big.NewInt(1)).String() + "/" + den
	}
	mustPass(t, p, []entry{
		{"", 1, "0", "1/" + d + " " + rest(d), "0", ""},
		{"", 1, "0", "1/" + e + " " + rest(d), "0", ""},
		{"", 1, "0", "1/" + d + " " + rest(below), "0", ""},
	})
	mustFail(t, p, []entry{
		{"a little above", 1, "0", "1/" + d + " " + rest(e), "0", ""},
		{"a little above", 1, "0", "1/" + below + " " + rest(d), "0", ""},
	})
}

// longList returns fractions whose denominators have hardly a common divisor.
func longList(t *testing.T, r *rand.Rand, count int) []num.Rat {
	var list []num.Rat
	for range count {
		den := new(big.Int).Rand(r, new(big.Int).Lsh(big.NewInt(1), 500))
		den.SetBit(den, 511, 1)
		top := new(big.Int).Rand(r, den)
		f := new(big.Rat).SetFrac(top, den)
		list = append(list, fraction(t, f.RatString()))
	}
	return list
}

func TestCheckTheLongestSums(t *testing.T) {
	r := rand.New(rand.NewSource(25))
	for range 3 {
		p := random(r, api.MaxVars, api.MaxRows, api.MaxCoef, 0)
		for i := range p.B {
			p.B[i] = api.MaxCoef
			p.A[i][r.Intn(api.MaxVars)] = -api.MaxCoef
		}
		for k := range p.C {
			p.C[k] = -api.MaxCoef
		}
		answers := []lp.Answer{
			{Status: api.Optimal, X: longList(t, r, api.MaxVars), Y: longList(t, r, api.MaxRows)},
			{Status: api.Infeasible, Y: longList(t, r, api.MaxRows)},
			{Status: api.Unbounded, X: longList(t, r, api.MaxVars), Ray: longList(t, r, api.MaxVars)},
		}
		for _, a := range answers {
			checkLikeChapter(t, p, a)
		}
		// The only thing that is wrong is the sum of the bounds.
		p = uniform(api.MaxVars, api.MaxRows, api.MaxCoef)
		checkLikeChapter(t, p, lp.Answer{Status: api.Infeasible, Y: longList(t, r, api.MaxRows)})
		p.B = filled(api.MaxRows, -api.MaxCoef)
		checkLikeChapter(t, p, lp.Answer{Status: api.Infeasible, Y: longList(t, r, api.MaxRows)})
		p.A = uniform(api.MaxVars, api.MaxRows, -api.MaxCoef).A
		checkLikeChapter(t, p, lp.Answer{Status: api.Unbounded, X: fractions(t, "1 1 1 1 1 1 1 1 1 1 1 1"), Ray: longList(t, r, api.MaxVars)})
	}
}

// checkLikeChapter checks that Check agrees with isRight.
func checkLikeChapter(t *testing.T, p api.Program, a lp.Answer) {
	t.Helper()
	want := api.ErrAnswer
	if isRight(p, a) {
		want = api.OK
	}
	if e := lp.Check(p, a); e != want {
		t.Errorf("Check(%v, %v) = %d, want %d", p, a, e, want)
	}
}

// disturbed returns an answer that differs from a in one place.
func disturbed(r *rand.Rand, a lp.Answer) lp.Answer {
	lists := []*[]num.Rat{&a.X, &a.Y, &a.Ray}
	for _, list := range lists {
		*list = slices.Clone(*list)
	}
	list := lists[r.Intn(3)]
	step, _ := num.Of(r.Intn(7) - 3).Quo(num.Of(r.Intn(5) + 1))
	switch r.Intn(6) {
	case 0:
		a.Status = r.Intn(6) - 1
	case 1:
		a.Value, _ = a.Value.Add(step)
	case 2:
		*list = append(*list, step)
	case 3:
		*list = (*list)[:max(0, len(*list)-1)]
	default:
		if len(*list) > 0 {
			i := r.Intn(len(*list))
			(*list)[i], _ = (*list)[i].Add(step)
		}
	}
	return a
}

func TestCheckDisturbedAnswers(t *testing.T) {
	r := rand.New(rand.NewSource(26))
	right := map[int]int{}
	for range 3000 {
		p := random(r, r.Intn(4), r.Intn(5), 3, r.Intn(6))
		a := disturbed(r, solved(t, p))
		checkLikeChapter(t, p, a)
		if isRight(p, a) {
			right[a.Status]++
		}
	}
	for status := api.Optimal; status <= api.Unbounded; status++ {
		if right[status] < 20 {
			t.Errorf("only %d right answers of status %d", right[status], status)
		}
	}
}

// The answers to one program, held against another one.
func TestCheckAnswersToOtherPrograms(t *testing.T) {
	r := rand.New(rand.NewSource(27))
	for range 3000 {
		n, m := r.Intn(4), r.Intn(4)
		p, q := random(r, n, m, 1, 6), random(r, n, m, 1, 6)
		checkLikeChapter(t, q, solved(t, p))
	}
}

func TestCheckInvalidPrograms(t *testing.T) {
	long := fraction(t, powerOfTwo(512))
	for name, p := range invalid() {
		for _, a := range []lp.Answer{{}, {Status: 1}, {Status: 2}, {Status: 3}, {Status: 9, Value: long},
			{Status: 1, X: make([]num.Rat, len(p.C)), Y: make([]num.Rat, len(p.A))},
			{Status: 3, X: make([]num.Rat, len(p.C)), Ray: make([]num.Rat, len(p.C))}} {
			if e := lp.Check(p, a); e != api.ErrArg {
				t.Errorf("%s: Check(%v) = %d", name, a, e)
			}
		}
	}
}

func TestCheckAcceptsAnyAnswer(t *testing.T) {
	endless := make([]num.Rat, 100000)
	for _, p := range []api.Program{{}, program(t, "1", "1", "1"), uniform(12, 16, 1)} {
		mustFail(t, p, []entry{{"nothing", 0, "0", "", "", ""}, {"nothing", 3, "0", "", "", ""}})
		for status := range 5 {
			for _, a := range []lp.Answer{{X: endless}, {Y: endless}, {Ray: endless}, {X: endless, Y: endless, Ray: endless}} {
				a.Status = status
				if e := lp.Check(p, a); e != api.ErrAnswer {
					t.Errorf("endless lists, status %d: %d", status, e)
				}
			}
		}
	}
	if e := lp.Check(api.Program{}, lp.Answer{Status: api.Optimal}); e != api.OK {
		t.Errorf("the empty program: %d", e)
	}
}

func TestCheckLeavesItsArguments(t *testing.T) {
	p := program(t, "3 2", "1 1,1 3", "4 6")
	a := solved(t, p)
	x, y, before := text(a.X), text(a.Y), cloned(p)
	for range 3 {
		if e := lp.Check(p, a); e != api.OK {
			t.Fatal(e)
		}
	}
	if !reflect.DeepEqual(p, before) || text(a.X) != x || text(a.Y) != y || a.Value.String() != "12" {
		t.Errorf("%v, %v", p, a)
	}
}
