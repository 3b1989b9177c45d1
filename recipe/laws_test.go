package recipe_test

import (
	"math/rand"
	"slices"
	"testing"

	"acrospire/api"
	"acrospire/recipe"
)

// soundCode returns programs that were verified, and their greatest depths.
func soundCode(r *rand.Rand, variables int) ([]api.Ins, int) {
	for {
		code := wildCode(r, 1+r.Intn(12), variables)
		if r.Intn(2) == 0 { // a compiled one, with a change
			text := writeRecipe(r, []string{"a", "b", "c"}, 1+r.Intn(6))
			compiled, names, _, e := recipe.Compile(text, nil)
			if e != api.OK || len(names) > variables {
				continue
			}
			i := r.Intn(len(compiled))
			compiled[i] = wildCode(r, len(compiled), variables)[i]
			code = compiled
		}
		if depth, e := recipe.Verify(code, variables); e == api.OK {
			return code, depth
		}
	}
}

func wildVariables(r *rand.Rand, count int) []int {
	variables := make([]int, count)
	for i := range variables {
		variables[i] = wildNumber(r)
	}
	return variables
}

func TestVerifiedProgramsAreSafe(t *testing.T) {
	r := rand.New(rand.NewSource(175))
	ends := map[[2]int]int{}
	for range 6000 {
		count := r.Intn(12)
		code, depth := soundCode(r, count)
		variables := wildVariables(r, count)
		run := mustExec(t, code, variables, 2000)
		if run.End == api.Failed && run.Err != int(api.ErrValue) && run.Err != int(api.ErrFull) {
			t.Fatalf("%s with %v: %v", show(code), variables, run)
		}
		want, deepest := simulate(code, variables, 2000)
		if !equalRuns(run, want) || deepest > depth {
			t.Fatalf("%s with %v: %v, want %v; depth %d, verified %d", show(code), variables, run, want, deepest, depth)
		}
		ends[[2]int{run.End, run.Err}]++
	}
	for _, end := range [][2]int{{1, 0}, {2, 101}, {3, 0}} {
		if ends[end] < 200 {
			t.Errorf("only %d runs ended by %v", ends[end], end)
		}
	}
}

func TestMoreGasGoesOn(t *testing.T) {
	r := rand.New(rand.NewSource(176))
	for range 1500 {
		count := r.Intn(4)
		code := wildCode(r, 1+r.Intn(15), count)
		if r.Intn(2) == 0 {
			code, _ = soundCode(r, count)
		}
		variables := wildVariables(r, count)
		last := mustExec(t, code, variables, 60)
		for gas := range 60 {
			run := mustExec(t, code, variables, gas)
			if run.End != api.Starved && !equalRuns(run, last) {
				t.Fatalf("%s with %v: %v with gas %d, %v with gas 60", show(code), variables, run, gas, last)
			}
			if run.End == api.Starved && (run.Gas != gas || last.Gas < gas) {
				t.Fatalf("%s with %v: %v is starved with gas %d, %v", show(code), variables, run, gas, last)
			}
			if len(run.Out) > len(last.Out) || !slices.Equal(run.Out, last.Out[:len(run.Out)]) {
				t.Fatalf("%s with %v: %v with gas %d, %v with gas 60", show(code), variables, run, gas, last)
			}
			if want, _ := simulate(code, variables, gas); !equalRuns(run, want) {
				t.Fatalf("%s with %v: %v with gas %d, want %v", show(code), variables, run, gas, want)
			}
		}
	}
}

func TestOperationsThatNeverFail(t *testing.T) {
	r := rand.New(rand.NewSource(177))
	failed := 0
	for range 20000 {
		count := r.Intn(4)
		code := slices.DeleteFunc(wildCode(r, 20, count), func(i api.Ins) bool {
			return i.Op == api.OpMul || i.Op == api.OpDiv || i.Op == api.OpMod
		})
		run := mustExec(t, code, wildVariables(r, count), 1000)
		if run.Err != int(api.ErrValue) {
			continue
		}
		failed++
		if op := code[run.At].Op; op != api.OpPush && op != api.OpAdd && op != api.OpSub {
			t.Fatalf("%s: %v", show(code), run)
		}
	}
	if failed < 100 {
		t.Errorf("only %d runs failed", failed)
	}
}
