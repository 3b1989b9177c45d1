package recipe

import (
	"acrospire/api"
)

// An action executes an instruction with this Arg, for which there is no obstacle; it returns an error if the run fails at it nevertheless.
type action func(m *machine, arg int) api.Errno

// actions returns the action of every operation, at its number.
func actions() [operations]action {
	return [operations]action{
		api.OpHalt:     (*machine).halt,
		api.OpPush:     (*machine).push,
		api.OpLoad:     (*machine).load,
		api.OpStore:    (*machine).store,
		api.OpAdd:      (*machine).add,
		api.OpSub:      (*machine).sub,
		api.OpMul:      (*machine).mul,
		api.OpDiv:      (*machine).div,
		api.OpMod:      (*machine).mod,
		api.OpEq:       (*machine).eq,
		api.OpLess:     (*machine).less,
		api.OpMore:     (*machine).more,
		api.OpNot:      (*machine).not,
		api.OpJump:     (*machine).jump,
		api.OpJumpZero: (*machine).jumpZero,
		api.OpEmit:     (*machine).emit,
		api.OpDrop:     (*machine).drop,
	}
}

func (m *machine) halt(int) api.Errno {
	m.halted = true
	return api.OK
}

func (m *machine) load(variable int) api.Errno {
	return m.push(m.variables[variable])
}

func (m *machine) store(variable int) api.Errno {
	m.variables[variable] = m.pop()
	return api.OK
}

func (m *machine) add(int) api.Errno {
	a, b := m.popTwo()
	return m.push(a + b)
}

func (m *machine) sub(int) api.Errno {
	a, b := m.popTwo()
	return m.push(a - b)
}

// mul divides before it multiplies, since the product can be beyond the range of int.
func (m *machine) mul(int) api.Errno {
	a, b := m.popTwo()
	if a != 0 && abs(b) > api.MaxInt/abs(a) {
		return api.ErrValue
	}
	return m.push(a * b)
}

func (m *machine) div(int) api.Errno {
	a, b := m.popTwo()
	if b == 0 {
		return api.ErrValue
	}
	return m.push(a / b)
}

func (m *machine) mod(int) api.Errno {
	a, b := m.popTwo()
	if b == 0 {
		return api.ErrValue
	}
	return m.push(a % b)
}

func (m *machine) eq(int) api.Errno {
	a, b := m.popTwo()
	return m.pushTruth(a == b)
}

func (m *machine) less(int) api.Errno {
	a, b := m.popTwo()
	return m.pushTruth(a < b)
}

func (m *machine) more(int) api.Errno {
	a, b := m.popTwo()
	return m.pushTruth(a > b)
}

func (m *machine) not(int) api.Errno {
	a := m.pop()
	return m.pushTruth(a == 0)
}

func (m *machine) jump(target int) api.Errno {
	m.next = target
	return api.OK
}

func (m *machine) jumpZero(target int) api.Errno {
	if m.pop() == 0 {
		m.next = target
	}
	return api.OK
}

func (m *machine) emit(int) api.Errno {
	if len(m.out) == api.MaxOut {
		return api.ErrFull
	}
	a := m.pop()
	m.out = append(m.out, a)
	return api.OK
}

func (m *machine) drop(int) api.Errno {
	m.pop()
	return api.OK
}

func abs(value int) int {
	if value < 0 {
		return -value
	}
	return value
}
