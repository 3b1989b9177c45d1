package recipe_test

import (
	"math"
	"math/rand"
	"slices"
	"testing"

	"acrospire/api"
	"acrospire/recipe"
)

func TestSoundPrograms(t *testing.T) {
	for _, c := range []struct {
		text string
		want int
	}{
		{"halt", 0},
		{"push 2; push 3; add; emit; halt", 2},
		{"load 1; store 0; halt", 1},
		{"push 1; not; drop; halt", 1},
		{"push 9007199254740992; push -9007199254740992; halt", 2}, // what is left on the stack does not matter
		{"jump 0", 0},
		{"push 1; jumpzero 0; halt", 1},
		{"push 1; jumpzero 4; push 1; drop; halt", 1},
		{"push 1; jumpzero 4; push 2; jump 5; push 3; emit; halt", 1},
		{"push 7; push 1; jumpzero 4; jump 1; emit; halt", 2},
		{"jump 4; add; add; jump 1; halt", 0},     // what cannot be reached pops too much,
		{"jump 2; push 1; halt; push 1; push", 0}, // or goes on at no instruction
		{"jump 2; jump 1; push 1; push 1; push 1; eq; halt", 3},
		{repeat("push 1", 128) + "halt", 128},
		{repeat("push 1", 128) + repeat("more", 127) + "drop; halt", 128},
	} {
		if got, e := recipe.Verify(program(c.text), 2); got != c.want || e != api.OK {
			t.Errorf("Verify(%s) = %d, %d, want %d", c.text, got, e, c.want)
		}
	}
}

func TestUnsoundPrograms(t *testing.T) {
	for _, text := range []string{
		"",
		"push 1",
		"push 1; jumpzero 0", // the instruction after the last one can be reached
		"push 1; drop",
		"drop; halt",
		"not; halt",
		"emit; halt",
		"store 0; halt",
		"jumpzero 1; halt",
		"push 1; add; halt",
		"push 1; sub; halt",
		"push 1; mul; halt",
		"push 1; div; halt",
		"push 1; mod; halt",
		"push 1; eq; halt",
		"push 1; less; halt",
		"push 1; more; halt",
		"push 1; jump 0",         // the instruction 0 has the depth 0 and 1
		"push 1; push 2; jump 1", // the depths 1 and 2
		"push 1; jumpzero 3; push 1; push 2; halt",       // the depths 0 and 1, only forward
		"push 1; jumpzero 3; halt; add; halt",            // only the jump leads to it
		"jump 1; push 1; push 1; jumpzero 4; jumpzero 0", // the end is reached after all
		repeat("push 1", 129) + "halt",
		repeat("push 1", 128) + "load 0; halt",
	} {
		if got, e := recipe.Verify(program(text), 2); got != 0 || e != api.ErrStack {
			t.Errorf("Verify(%s) = %d, %d, want %d", text, got, e, api.ErrStack)
		}
	}
}

func TestVerifyRefuses(t *testing.T) {
	const unsound = "; drop; halt"
	for _, c := range []struct {
		text      string
		variables int
		want      api.Errno
	}{
		{"halt", -1, api.ErrArg},
		{"halt", 33, api.ErrArg},
		{"halt", math.MaxInt, api.ErrArg},
		{"halt", math.MinInt, api.ErrArg},
		{"halt", 32, api.OK},
		{"nonsense; halt", 0, api.ErrArg},
		{"load 2; push 9007199254740993; jump 9; nonsense", 2, api.ErrArg},
		{"load 2; halt", 2, api.ErrName},
		{"load 0; halt", 0, api.ErrName},
		{"load -1; halt", 2, api.ErrName},
		{"push 1; store 2; halt", 2, api.ErrName},
		{"push 1; store -1; halt", 2, api.ErrName},
		{"halt; load 2", 2, api.ErrName},
		{"halt; store 2", 2, api.ErrName},
		{"jump 9; push 9007199254740993; load 2" + unsound, 2, api.ErrName},
		{"load 1; halt; store 0", 2, api.OK},
		{"push 9007199254740993; halt", 2, api.ErrValue},
		{"halt; push -9007199254740993", 2, api.ErrValue},
		{"push -9223372036854775808; halt", 2, api.ErrValue},
		{"jump 9; push 9007199254740993" + unsound, 2, api.ErrValue},
		{"jump 1", 2, api.ErrTarget},
		{"jump -1", 2, api.ErrTarget},
		{"halt; jump 2", 2, api.ErrTarget},
		{"push 1; jumpzero 3; halt", 2, api.ErrTarget},
		{"halt; jumpzero -1", 2, api.ErrTarget},
		{"halt; jumpzero 9223372036854775807", 2, api.ErrTarget},
		{"drop; jump 9", 2, api.ErrTarget},
		{"drop; jump 0", 2, api.ErrStack},
		{"not 9007199254740993; emit -1; add 99", 2, api.ErrStack}, // these Args do not matter
		{"push 1; not 9007199254740993; emit -1; halt 99", 2, api.OK},
	} {
		got, e := recipe.Verify(program(c.text), c.variables)
		if e != c.want || e != api.OK && got != 0 {
			t.Errorf("Verify(%s, %d) = %d, %d, want %d", c.text, c.variables, got, e, c.want)
		}
	}
	for _, op := range []int{-1, 17, math.MaxInt, math.MinInt} {
		_, e := recipe.Verify([]api.Ins{{Op: api.OpHalt}, {Op: op}}, 0)
		must(t, "Verify with a wrong Op", e, api.ErrArg)
	}
}

func TestVerifyLongPrograms(t *testing.T) {
	_, e := recipe.Verify(slices.Repeat(program("halt"), 4096), 0)
	must(t, "4096 instructions", e, api.OK)
	_, e = recipe.Verify(slices.Repeat(program("halt"), 4097), 0)
	must(t, "4097 instructions", e, api.ErrArg)
	zigzag := make([]api.Ins, 4096) // 0, 4094, 1, 4093, ..
	for i := range zigzag {
		zigzag[i] = api.Ins{Op: api.OpJump, Arg: 4094 - i}
		if i > 2047 {
			zigzag[i].Arg = 4095 - i
		}
	}
	zigzag[2047] = api.Ins{Op: api.OpHalt}
	depth, e := recipe.Verify(zigzag, 0)
	if depth != 0 || e != api.OK {
		t.Fatalf("a long way: %d, %d", depth, e)
	}
	zigzag[2047] = api.Ins{Op: api.OpDrop}
	_, e = recipe.Verify(zigzag, 0)
	must(t, "a long way to a wrong end", e, api.ErrStack)
}

func TestVerifiesAsByAPlainReading(t *testing.T) {
	r := rand.New(rand.NewSource(171))
	errors := map[api.Errno]int{}
	for range 60000 {
		variables := r.Intn(4)
		code := wildCode(r, 1+r.Intn(9), variables)
		kept := slices.Clone(code)
		got, e := recipe.Verify(code, variables)
		want, wantErr := examine(code, variables)
		if got != want || e != wantErr || !slices.Equal(code, kept) {
			t.Fatalf("Verify(%s, %d) = %d, %d, want %d, %d", show(code), variables, got, e, want, wantErr)
		}
		errors[e]++
	}
	for _, e := range []api.Errno{api.OK, api.ErrArg, api.ErrName, api.ErrValue, api.ErrTarget, api.ErrStack} {
		if errors[e] < 300 {
			t.Errorf("only %d results %d", errors[e], e)
		}
	}
}
