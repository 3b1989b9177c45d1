package recipe_test

import (
	"math"
	"math/rand"
	"slices"
	"strconv"
	"testing"

	"acrospire/api"
	"acrospire/recipe"
)

const maxInt = 1 << 53

func TestInstructions(t *testing.T) {
	for _, c := range []struct {
		text string
		out  []int
	}{
		{"push 7; emit; halt", []int{7}},
		{"push 9007199254740992; emit; push -9007199254740992; emit; halt", []int{maxInt, -maxInt}},
		{"load 0; emit; load 1; emit; halt", []int{10, -20}},
		{"push 5; store 1; load 0; load 1; emit; emit; halt", []int{5, 10}},
		{"push 2; push 3; add; emit; halt", []int{5}},
		{"push 2; push 3; sub; emit; halt", []int{-1}},
		{"push 2; push 3; mul; emit; halt", []int{6}},
		{"push 7; push 2; div; emit; push -7; push 2; div; emit; push 7; push -2; div; emit; push -7; push -2; div; emit; halt", []int{3, -3, -3, 3}},
		{"push 7; push 2; mod; emit; push -7; push 2; mod; emit; push 7; push -2; mod; emit; push -7; push -2; mod; emit; halt", []int{1, -1, 1, -1}},
		{"push 6; push 2; mod; emit; push 1; push 2; div; emit; push -1; push 2; div; emit; halt", []int{0, 0, 0}},
		{"push 2; push 2; eq; emit; push 2; push 3; eq; emit; halt", []int{1, 0}},
		{"push 2; push 3; less; emit; push 3; push 2; less; emit; push 2; push 2; less; emit; halt", []int{1, 0, 0}},
		{"push 2; push 3; more; emit; push 3; push 2; more; emit; push 2; push 2; more; emit; halt", []int{0, 1, 0}},
		{"push 0; not; emit; push 2; not; emit; push -1; not; emit; halt", []int{1, 0, 0}},
		{"jump 3; push 1; emit; push 2; emit; halt", []int{2}},
		{"push 0; jumpzero 4; push 1; emit; push 2; emit; halt", []int{2}},
		{"push 3; jumpzero 4; push 1; emit; push 2; emit; halt", []int{1, 2}},
		{"push 1; push 2; drop; emit; halt", []int{1}},
		{"push 3; push 2; emit; emit; halt; push 4; emit", []int{2, 3}},
		{"halt", nil},
	} {
		code := program(c.text)
		run := mustExec(t, code, []int{10, -20}, 100)
		if run.End != api.Halted || run.Err != 0 || !slices.Equal(run.Out, c.out) || code[run.At].Op != api.OpHalt {
			t.Errorf("%s: %v, want Out %v", c.text, run, c.out)
		}
	}
}

func TestRunThatHalts(t *testing.T) {
	code := program("load 0; jumpzero 7; load 0; push 1; sub; store 0; jump 0; push 9; emit; halt; halt")
	run := mustExec(t, code, []int{2, 77}, 1000)
	want := api.Run{End: api.Halted, At: 9, Gas: 2*7 + 2 + 3, Out: []int{9}, Variables: []int{0, 77}}
	if !equalRuns(run, want) {
		t.Fatalf("Exec = %v, want %v", run, want)
	}
	if again := mustExec(t, code, []int{2, 77}, 19); !equalRuns(again, want) {
		t.Fatalf("with all gas used up: %v, want %v", again, want)
	}
}

func TestRunThatStarves(t *testing.T) {
	code := program("push 4; store 0; push 5; emit; jump 6; halt; jump -3")
	for gas, at := range []int{0, 1, 2, 3, 4, 6, -3} {
		run := mustExec(t, code, []int{1}, gas)
		want := api.Run{End: api.Starved, At: at, Gas: gas, Variables: []int{1}}
		if gas >= 2 {
			want.Variables = []int{4}
		}
		if gas >= 4 {
			want.Out = []int{5}
		}
		if !equalRuns(run, want) {
			t.Fatalf("with gas %d: %v, want %v", gas, run, want)
		}
	}
	run := mustExec(t, code, []int{1}, 7)
	if want := (api.Run{End: api.Failed, Err: int(api.ErrTarget), At: -3, Gas: 6, Out: []int{5}, Variables: []int{4}}); !equalRuns(run, want) {
		t.Fatalf("with gas 7: %v, want %v", run, want)
	}
	if run := mustExec(t, program("jump 0"), nil, 1<<20); run.End != api.Starved || run.Gas != 1<<20 || run.At != 0 {
		t.Fatalf("endless: %v", run)
	}
	if run := mustExec(t, nil, nil, 0); run.End != api.Starved || run.At != 0 {
		t.Fatalf("without gas: %v", run)
	}
}

// failures lists programs that fail with their last executed instruction.
func failures() []struct {
	text string
	err  api.Errno
	at   int
} {
	big, biggest := strconv.Itoa(maxInt+1), strconv.Itoa(maxInt)
	return []struct {
		text string
		err  api.Errno
		at   int
	}{
		{"", api.ErrTarget, 0},
		{"push 1", api.ErrTarget, 1},
		{"jump -1", api.ErrTarget, -1},
		{"jump 2; halt", api.ErrTarget, 2},
		{"push 0; jumpzero 9223372036854775807", api.ErrTarget, math.MaxInt},
		{"push 0; jumpzero -9223372036854775808", api.ErrTarget, math.MinInt},
		{"load 2", api.ErrName, 0},
		{"load -1", api.ErrName, 0},
		{"push 1; store 2", api.ErrName, 1},
		{"push 1; store -1", api.ErrName, 1},
		{"store 2", api.ErrName, 0}, // before ErrStack
		{repeat("push 1", 128) + "load 2", api.ErrName, 128},
		{"store 0", api.ErrStack, 0},
		{"not", api.ErrStack, 0},
		{"jumpzero 0", api.ErrStack, 0},
		{"emit", api.ErrStack, 0},
		{"drop", api.ErrStack, 0},
		{"push 1; add", api.ErrStack, 1},
		{"push 1; sub", api.ErrStack, 1},
		{"push 1; mul", api.ErrStack, 1},
		{"push 0; div", api.ErrStack, 1}, // before ErrValue
		{"push 0; mod", api.ErrStack, 1},
		{"push 1; eq", api.ErrStack, 1},
		{"push 1; less", api.ErrStack, 1},
		{"push 1; more", api.ErrStack, 1},
		{repeat("push 1", 129), api.ErrStack, 128},
		{repeat("push 1", 128) + "load 0", api.ErrStack, 128},
		{"push " + big, api.ErrValue, 0},
		{"push -" + big, api.ErrValue, 0},
		{"push 9223372036854775807", api.ErrValue, 0},
		{"push -9223372036854775808", api.ErrValue, 0},
		{repeat("push 1", 128) + "push " + big, api.ErrValue, 128}, // before ErrStack
		{"push 1; push 0; div", api.ErrValue, 2},
		{"push 0; push 0; mod", api.ErrValue, 2},
		{"push " + biggest + "; push 1; add", api.ErrValue, 2},
		{"push -" + biggest + "; push -1; add", api.ErrValue, 2},
		{"push -" + biggest + "; push 1; sub", api.ErrValue, 2},
		{"push 1; push -" + biggest + "; sub", api.ErrValue, 2},
		{"push 94906266; push 94906266; mul", api.ErrValue, 2},
		{"push -94906266; push 94906266; mul", api.ErrValue, 2},
		{"push 2; push 4503599627370497; mul", api.ErrValue, 2},
		{"push " + biggest + "; push -" + biggest + "; mul", api.ErrValue, 2},
		{"push 4294967296; push 4294967296; mul", api.ErrValue, 2}, // 2^64 is 0 in an int
	}
}

func TestRunThatFails(t *testing.T) {
	for _, c := range failures() {
		run := mustExec(t, program(c.text), []int{3, 4}, 1000)
		if run.End != api.Failed || run.Err != int(c.err) || run.At != c.at || !slices.Equal(run.Variables, []int{3, 4}) || len(run.Out) > 0 {
			t.Errorf("%s: %v, want %d at %d", c.text, run, c.err, c.at)
		}
		if want, _ := simulate(program(c.text), []int{3, 4}, 1000); !equalRuns(run, want) {
			t.Errorf("%s: %v, want %v", c.text, run, want)
		}
	}
	for _, op := range []int{-1, 17, math.MaxInt, math.MinInt} {
		run := mustExec(t, []api.Ins{{Op: api.OpPush, Arg: 1}, {Op: op, Arg: -1}}, nil, 9)
		if run.End != api.Failed || run.Err != int(api.ErrArg) || run.At != 1 || run.Gas != 1 {
			t.Errorf("Op %d: %v", op, run)
		}
	}
}

func TestGreatestNumbers(t *testing.T) {
	biggest := strconv.Itoa(maxInt)
	code := program("push " + biggest + "; push -1; mul; emit; push 2; push 4503599627370496; mul; emit; push -" + biggest + "; push -1; div; emit; push 0; push " + biggest + "; sub; emit; push 0; push " + biggest + "; mul; emit; push -" + biggest + "; push " + biggest + "; add; emit; halt")
	run := mustExec(t, code, nil, 100)
	if run.End != api.Halted || !slices.Equal(run.Out, []int{-maxInt, maxInt, maxInt, -maxInt, 0, 0}) {
		t.Fatalf("Exec = %v", run)
	}
}

func TestFullStack(t *testing.T) {
	code := program(repeat("push 1", 128) + repeat("add", 127) + "emit; halt")
	if run := mustExec(t, code, nil, 1000); run.End != api.Halted || !slices.Equal(run.Out, []int{128}) {
		t.Fatalf("Exec = %v", run)
	}
}

func TestFullOutput(t *testing.T) {
	code := program("push 7; emit; jump 0")
	run := mustExec(t, code, nil, 1<<20)
	if run.End != api.Failed || run.Err != int(api.ErrFull) || run.At != 1 || len(run.Out) != 4096 || run.Gas != 3*4096+1 {
		t.Fatalf("End %d, Err %d, At %d, Gas %d, %d numbers", run.End, run.Err, run.At, run.Gas, len(run.Out))
	}
	stack := program("load 0; jumpzero 9; push 7; emit; load 0; push 1; sub; store 0; jump 0; emit; halt")
	run = mustExec(t, stack, []int{4096}, 1<<20)
	if run.Err != int(api.ErrStack) || run.At != 9 || len(run.Out) != 4096 {
		t.Fatalf("ErrStack is before ErrFull: Err %d, At %d, %d numbers", run.Err, run.At, len(run.Out))
	}
}

func TestExecRefuses(t *testing.T) {
	halt := program("halt")
	long := slices.Repeat(halt, 4097)
	for _, c := range []struct {
		code      []api.Ins
		variables []int
		gas       int
		want      api.Errno
	}{
		{long[:4096], make([]int, 32), 1 << 20, api.OK},
		{halt, []int{maxInt, -maxInt}, 0, api.OK},
		{long, nil, 10, api.ErrArg},
		{halt, make([]int, 33), 10, api.ErrArg},
		{halt, []int{0, maxInt + 1}, 10, api.ErrArg},
		{halt, []int{-maxInt - 1}, 10, api.ErrArg},
		{halt, []int{math.MinInt}, 10, api.ErrArg},
		{halt, nil, -1, api.ErrArg},
		{halt, nil, 1<<20 + 1, api.ErrArg},
		{halt, nil, math.MaxInt, api.ErrArg},
		{halt, nil, math.MinInt, api.ErrArg},
	} {
		run, e := recipe.Exec(c.code, c.variables, c.gas)
		if e != c.want || e != api.OK && !equalRuns(run, api.Run{}) {
			t.Errorf("Exec(%d instructions, %v, %d) = %v, %d, want %d", len(c.code), c.variables, c.gas, run, e, c.want)
		}
	}
}

func TestExecChangesNoArgument(t *testing.T) {
	code := program("push 5; store 0; push 6; emit; halt")
	kept := slices.Clone(code)
	variables := []int{1, 2}
	first := mustExec(t, code, variables, 100)
	if !slices.Equal(variables, []int{1, 2}) || !slices.Equal(code, kept) {
		t.Fatalf("variables %v, code %v", variables, code)
	}
	second := mustExec(t, code, variables, 100)
	first.Variables[1] = 50
	first.Out[0] = 60
	if !slices.Equal(second.Variables, []int{5, 2}) || !slices.Equal(second.Out, []int{6}) || !slices.Equal(variables, []int{1, 2}) {
		t.Fatalf("results share memory: %v, %v", second, variables)
	}
}

// wildNumber returns numbers of which many are small, and many at a limit.
func wildNumber(r *rand.Rand) int {
	switch r.Intn(8) {
	case 0:
		return (r.Intn(5) - 2) * maxInt / 2
	case 1:
		return r.Intn(1<<54+1) - maxInt
	case 2:
		return r.Intn(1<<28) - 1<<27
	default:
		return r.Intn(9) - 4
	}
}

// wildCode returns programs in which most of the instructions make sense.
func wildCode(r *rand.Rand, length, variables int) []api.Ins {
	code := make([]api.Ins, length)
	for i := range code {
		op := r.Intn(17)
		if r.Intn(3) == 0 {
			op = api.OpPush
		}
		arg := wildNumber(r)
		switch op {
		case api.OpLoad, api.OpStore:
			arg = r.Intn(variables + 1)
		case api.OpJump, api.OpJumpZero:
			arg = r.Intn(length + 1)
		case api.OpHalt:
			op = r.Intn(17)
		}
		code[i] = api.Ins{Op: op, Arg: arg}
	}
	if r.Intn(20) == 0 {
		code[r.Intn(length)] = api.Ins{Op: r.Intn(30) - 10, Arg: r.Int() - r.Int()}
	}
	if r.Intn(20) == 0 {
		code[r.Intn(length)] = api.Ins{Op: api.OpPush, Arg: []int{maxInt + 1, -maxInt - 1, math.MaxInt, math.MinInt}[r.Intn(4)]}
	}
	return code
}

func TestRunsAsByAPlainReading(t *testing.T) {
	r := rand.New(rand.NewSource(170))
	ends := map[[2]int]int{}
	for range 40000 {
		variables := make([]int, r.Intn(4))
		for i := range variables {
			variables[i] = wildNumber(r)
		}
		code := wildCode(r, 1+r.Intn(20), len(variables))
		gas := r.Intn(1 << r.Intn(10))
		run := mustExec(t, code, variables, gas)
		want, _ := simulate(code, variables, gas)
		if !equalRuns(run, want) {
			t.Fatalf("%s with %v, %d: %v, want %v", show(code), variables, gas, run, want)
		}
		ends[[2]int{run.End, run.Err}]++
	}
	for _, end := range [][2]int{{1, 0}, {2, 104}, {2, 2}, {2, 100}, {2, 103}, {2, 101}, {3, 0}} {
		if ends[end] < 50 {
			t.Errorf("only %d runs ended by %v", ends[end], end)
		}
	}
}
