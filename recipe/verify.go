package recipe

import (
	"acrospire/api"
	"slices"
)

// unreached is the depth of an instruction that was not reached.
const unreached = -1

// Verify returns the greatest depth of the stack of a program for that many variables, or what is wrong with it.
func Verify(code []api.Ins, variables int) (int, api.Errno) {
	if err := checkInstructions(code, variables); err != api.OK {
		return 0, err
	}
	greatest, sound := depthOf(code)
	if !sound {
		return 0, api.ErrStack
	}
	return greatest, api.OK
}

// checkInstructions makes the checks for which it does not matter which instructions can be reached.
func checkInstructions(code []api.Ins, variables int) api.Errno {
	if len(code) > api.MaxCode || variables < 0 || variables > api.MaxSlots {
		return api.ErrArg
	}
	if slices.ContainsFunc(code, func(ins api.Ins) bool { return !isOperation(ins.Op) }) {
		return api.ErrArg
	}
	if slices.ContainsFunc(code, func(ins api.Ins) bool { return lacksVariable(ins, variables) }) {
		return api.ErrName
	}
	if slices.ContainsFunc(code, func(ins api.Ins) bool { return ins.Op == api.OpPush && !isNumber(ins.Arg) }) {
		return api.ErrValue
	}
	if slices.ContainsFunc(code, func(ins api.Ins) bool { return jumps(ins) && (ins.Arg < 0 || ins.Arg >= len(code)) }) {
		return api.ErrTarget
	}
	return api.OK
}

func jumps(ins api.Ins) bool {
	return ins.Op == api.OpJump || ins.Op == api.OpJumpZero
}

// goesOn tells whether the run can go on at the next instruction.
func goesOn(ins api.Ins) bool {
	return ins.Op != api.OpHalt && ins.Op != api.OpJump
}

// A survey finds the depths of the instructions that can be reached.
type survey struct {
	depths   []int
	pending  []int // reached, but what follows them was not visited
	greatest int
}

// depthOf returns the greatest depth, and whether the program is sound.
func depthOf(code []api.Ins) (int, bool) {
	s := survey{depths: slices.Repeat([]int{unreached}, len(code))}
	if !s.reach(0, 0) {
		return 0, false
	}
	for len(s.pending) > 0 {
		last := len(s.pending) - 1
		at := s.pending[last]
		s.pending = s.pending[:last]
		if !s.leave(at, code[at]) {
			return 0, false
		}
	}
	return s.greatest, true
}

// leave reaches the instructions at which the run can go on, and returns false if the program is not sound.
func (s *survey) leave(at int, ins api.Ins) bool {
	depth := s.depths[at] - effects[ins.Op].pops
	if depth < 0 {
		return false
	}
	depth += effects[ins.Op].pushes
	if depth > api.MaxDepth {
		return false
	}
	s.greatest = max(s.greatest, depth)
	if goesOn(ins) && !s.reach(at+1, depth) {
		return false
	}
	return !jumps(ins) || s.reach(ins.Arg, depth)
}

// reach notes the depth of an instruction, and returns false if it has another one, or does not exist.
func (s *survey) reach(at, depth int) bool {
	if at >= len(s.depths) {
		return false
	}
	if s.depths[at] == unreached {
		s.depths[at] = depth
		s.pending = append(s.pending, at)
	}
	return s.depths[at] == depth
}
