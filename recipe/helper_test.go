package recipe_test

import (
	"math/big"
	"slices"
	"strconv"
	"strings"
	"testing"

	"acrospire/api"
	"acrospire/recipe"
)

func must(t *testing.T, call string, e, want api.Errno) {
	t.Helper()
	if e != want {
		t.Fatalf("%s: %d, want %d", call, e, want)
	}
}

// opNames are the names of the operations, in the order of the chapter's table.
var opNames = []string{"halt", "push", "load", "store", "add", "sub", "mul", "div", "mod", "eq", "less", "more", "not", "jump", "jumpzero", "emit", "drop"}

// program reads instructions, each a name and its Arg (0 if there is none), which are separated by semicolons.
func program(text string) []api.Ins {
	var code []api.Ins
	for part := range strings.SplitSeq(text, ";") {
		words := strings.Fields(part)
		if len(words) == 0 {
			continue
		}
		i := api.Ins{Op: slices.Index(opNames, words[0])}
		if len(words) > 1 {
			i.Arg, _ = strconv.Atoi(words[1])
		}
		code = append(code, i)
	}
	return code
}

// show is the inverse of program.
func show(code []api.Ins) string {
	var parts []string
	for _, i := range code {
		name := "op" + strconv.Itoa(i.Op)
		if i.Op >= 0 && i.Op < len(opNames) {
			name = opNames[i.Op]
		}
		parts = append(parts, name+" "+strconv.Itoa(i.Arg))
	}
	return strings.Join(parts, "; ")
}

func repeat(part string, times int) string {
	return strings.Repeat(part+"; ", times)
}

func mustExec(t *testing.T, code []api.Ins, variables []int, gas int) api.Run {
	t.Helper()
	run, e := recipe.Exec(code, variables, gas)
	must(t, "Exec of "+show(code), e, api.OK)
	return run
}

func equalRuns(a, b api.Run) bool {
	return a.End == b.End && a.Err == b.Err && a.At == b.At && a.Gas == b.Gas && slices.Equal(a.Out, b.Out) && slices.Equal(a.Variables, b.Variables)
}

// isNumber tells whether an integer of any size is a number of the machine.
func isNumber(value *big.Int) bool {
	return value.CmpAbs(new(big.Int).Lsh(big.NewInt(1), 53)) <= 0
}

// operate is what an operation makes of two numbers; without ok, it is ErrValue.
func operate(op, a, b int) (int, bool) {
	x, y, result := big.NewInt(int64(a)), big.NewInt(int64(b)), new(big.Int)
	switch op {
	case api.OpAdd:
		result.Add(x, y)
	case api.OpSub:
		result.Sub(x, y)
	case api.OpMul:
		result.Mul(x, y)
	case api.OpDiv, api.OpMod:
		if b == 0 {
			return 0, false
		}
		quotient := new(big.Int).Quo(x, y)
		result = quotient
		if op == api.OpMod {
			result = new(big.Int).Sub(x, quotient.Mul(y, quotient))
		}
	case api.OpEq:
		result.SetInt64(truth(a == b))
	case api.OpLess:
		result.SetInt64(truth(a < b))
	case api.OpMore:
		result.SetInt64(truth(a > b))
	}
	return int(result.Int64()), isNumber(result)
}

func truth(holds bool) int64 {
	if holds {
		return 1
	}
	return 0
}

// A simulation is a plain reading of the chapter: before each step, it goes through the reasons to fail in their order.
type simulation struct {
	code                   []api.Ins
	variables, stack, out  []int
	at, gas, deepest       int
	pops, pushes, end, err int
}

// simulate returns the run, and the most numbers that were ever on the stack.
func simulate(code []api.Ins, variables []int, gas int) (api.Run, int) {
	s := simulation{code: code, variables: slices.Clone(variables)}
	for s.end == 0 {
		if s.gas == gas {
			s.end = api.Starved
		} else if s.err = int(s.reason()); s.err != 0 {
			s.end = api.Failed
		} else {
			s.gas++
			s.step()
			s.deepest = max(s.deepest, len(s.stack))
		}
	}
	return api.Run{End: s.end, Err: s.err, At: s.at, Gas: s.gas, Out: s.out, Variables: s.variables}, s.deepest
}

// count sets how many numbers the operation pops and pushes.
func (s *simulation) count(op int) {
	s.pops, s.pushes = 0, 0
	if op == api.OpPush || op == api.OpLoad || op >= api.OpAdd && op <= api.OpNot {
		s.pushes = 1
	}
	if op == api.OpStore || op == api.OpNot || op >= api.OpJumpZero {
		s.pops = 1
	}
	if op >= api.OpAdd && op <= api.OpMore {
		s.pops = 2
	}
}

// top returns the number that is so far below the top.
func (s *simulation) top(below int) int {
	return s.stack[len(s.stack)-1-below]
}

func (s *simulation) reason() api.Errno {
	if s.at < 0 || s.at >= len(s.code) {
		return api.ErrTarget
	}
	i := s.code[s.at]
	if i.Op < 0 || i.Op > 16 {
		return api.ErrArg
	}
	if (i.Op == api.OpLoad || i.Op == api.OpStore) && (i.Arg < 0 || i.Arg >= len(s.variables)) {
		return api.ErrName
	}
	s.count(i.Op)
	if s.pops > len(s.stack) {
		return api.ErrStack
	}
	if i.Op == api.OpPush && !isNumber(big.NewInt(int64(i.Arg))) {
		return api.ErrValue
	}
	if s.pops == 2 {
		if _, ok := operate(i.Op, s.top(1), s.top(0)); !ok {
			return api.ErrValue
		}
	}
	if len(s.stack)-s.pops+s.pushes > 128 {
		return api.ErrStack
	}
	if i.Op == api.OpEmit && len(s.out) >= 4096 {
		return api.ErrFull
	}
	return api.OK
}

// step executes an instruction that has no reason to fail.
func (s *simulation) step() {
	i := s.code[s.at]
	popped := slices.Clone(s.stack[len(s.stack)-s.pops:])
	s.stack = s.stack[:len(s.stack)-s.pops]
	next := s.at + 1
	switch i.Op {
	case api.OpHalt:
		s.end = api.Halted
		next = s.at
	case api.OpPush:
		s.stack = append(s.stack, i.Arg)
	case api.OpLoad:
		s.stack = append(s.stack, s.variables[i.Arg])
	case api.OpStore:
		s.variables[i.Arg] = popped[0]
	case api.OpNot:
		s.stack = append(s.stack, int(truth(popped[0] == 0)))
	case api.OpJump:
		next = i.Arg
	case api.OpJumpZero:
		if popped[0] == 0 {
			next = i.Arg
		}
	case api.OpEmit:
		s.out = append(s.out, popped[0])
	case api.OpDrop:
	default:
		result, _ := operate(i.Op, popped[0], popped[1])
		s.stack = append(s.stack, result)
	}
	s.at = next
}

// A place is an instruction with a depth that the stack has there.
type place struct {
	at, depth int
}

// survey is soundness by a plain reading: it visits all instructions with all depths that they can have.
func survey(code []api.Ins) (int, bool) {
	greatest, sound := 0, true
	seen := map[place]bool{}
	depths := map[int]int{}
	pending := []place{{0, 0}}
	for len(pending) > 0 {
		p := pending[0]
		pending = pending[1:]
		if seen[p] {
			continue
		}
		seen[p] = true
		if known, ok := depths[p.at]; ok && known != p.depth || p.at >= len(code) {
			return 0, false
		}
		depths[p.at] = p.depth
		var s simulation
		s.count(code[p.at].Op)
		after := p.depth - s.pops + s.pushes
		sound = sound && s.pops <= p.depth && after <= 128
		if !sound {
			return 0, false
		}
		greatest = max(greatest, after)
		switch code[p.at].Op {
		case api.OpHalt:
		case api.OpJump:
			pending = append(pending, place{code[p.at].Arg, after})
		case api.OpJumpZero:
			pending = append(pending, place{code[p.at].Arg, after}, place{p.at + 1, after})
		default:
			pending = append(pending, place{p.at + 1, after})
		}
	}
	return greatest, sound
}

// examine is Verify by a plain reading.
func examine(code []api.Ins, variables int) (int, api.Errno) {
	wrong := [5]bool{len(code) > 4096 || variables < 0 || variables > 32, false, false, false, false}
	for _, i := range code {
		wrong[0] = wrong[0] || i.Op < 0 || i.Op > 16
		wrong[1] = wrong[1] || (i.Op == api.OpLoad || i.Op == api.OpStore) && (i.Arg < 0 || i.Arg >= variables)
		wrong[2] = wrong[2] || i.Op == api.OpPush && !isNumber(big.NewInt(int64(i.Arg)))
		wrong[3] = wrong[3] || (i.Op == api.OpJump || i.Op == api.OpJumpZero) && (i.Arg < 0 || i.Arg >= len(code))
	}
	greatest := 0
	if !wrong[0] && !wrong[3] {
		depth, sound := survey(code)
		greatest = depth
		wrong[4] = !sound
	}
	for i, e := range []api.Errno{api.ErrArg, api.ErrName, api.ErrValue, api.ErrTarget, api.ErrStack} {
		if wrong[i] {
			return 0, e
		}
	}
	return greatest, api.OK
}
