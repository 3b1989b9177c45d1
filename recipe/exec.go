package recipe

import (
	"acrospire/api"
	"slices"
)

// maxGas is the most gas that a run can have.
const maxGas = 1 << 20

// Exec runs the program with these variables until it halts, fails, or has used up its gas.
func Exec(code []api.Ins, variables []int, gas int) (api.Run, api.Errno) {
	if len(code) > api.MaxCode || len(variables) > api.MaxSlots || gas < 0 || gas > maxGas {
		return api.Run{}, api.ErrArg
	}
	if slices.ContainsFunc(variables, func(value int) bool { return !isNumber(value) }) {
		return api.Run{}, api.ErrArg
	}
	m := machine{code: code, variables: slices.Clone(variables)}
	end, err := m.run(gas)
	return api.Run{End: end, Err: int(err), At: m.at, Gas: m.gas, Out: m.out, Variables: m.variables}, api.OK
}

// A machine is a program that runs.
type machine struct {
	code      []api.Ins
	variables []int
	stack     []int
	out       []int
	at        int // the instruction that is executed
	next      int // the one that is executed after it
	gas       int // what was consumed
	halted    bool
}

// run executes instructions until the run ends, and returns how and why it ended.
func (m *machine) run(gas int) (int, api.Errno) {
	acts := actions()
	for m.gas < gas {
		if err := m.obstacle(); err != api.OK {
			return api.Failed, err
		}
		ins := m.code[m.at]
		m.next = m.at + 1
		if err := acts[ins.Op](m, ins.Arg); err != api.OK {
			return api.Failed, err
		}
		m.gas++
		if m.halted {
			return api.Halted, api.OK
		}
		m.at = m.next
	}
	return api.Starved, api.OK
}

// obstacle returns the error by which an instruction fails whatever the numbers on the stack are, or OK.
func (m *machine) obstacle() api.Errno {
	if m.at < 0 || m.at >= len(m.code) {
		return api.ErrTarget
	}
	ins := m.code[m.at]
	if !isOperation(ins.Op) {
		return api.ErrArg
	}
	if lacksVariable(ins, len(m.variables)) {
		return api.ErrName
	}
	if effects[ins.Op].pops > len(m.stack) {
		return api.ErrStack
	}
	return api.OK
}

// push checks the number before the stack, since a wrong number is the first reason to fail.
func (m *machine) push(value int) api.Errno {
	if !isNumber(value) {
		return api.ErrValue
	}
	if len(m.stack) == api.MaxDepth {
		return api.ErrStack
	}
	m.stack = append(m.stack, value)
	return api.OK
}

func (m *machine) pushTruth(holds bool) api.Errno {
	if holds {
		return m.push(1)
	}
	return m.push(0)
}

func (m *machine) pop() int {
	last := len(m.stack) - 1
	top := m.stack[last]
	m.stack = m.stack[:last]
	return top
}

// popTwo returns the two topmost numbers, the top as the second one.
func (m *machine) popTwo() (int, int) {
	b := m.pop()
	a := m.pop()
	return a, b
}
