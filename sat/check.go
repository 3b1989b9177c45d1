package sat

import "acrospire/api"

// Check tells whether v is a right verdict for a formula.
func Check(n int, clauses [][]int, v api.Verdict) api.Errno {
	switch {
	case !isFormula(n, clauses):
		return api.ErrArg
	case isRight(n, clauses, v):
		return api.OK
	case v.Status == api.Refuted:
		return api.ErrProof
	}
	return api.ErrAnswer
}

func isRight(n int, clauses [][]int, v api.Verdict) bool {
	switch v.Status {
	case api.Satisfied:
		return len(v.Proof) == 0 && len(v.Model) == n && isModel(clauses, v.Model)
	case api.Refuted:
		return len(v.Model) == 0 && isProof(n, clauses, v.Proof)
	case api.Unknown:
		return len(v.Model) == 0 && len(v.Proof) == 0
	}
	return false
}

func isModel(clauses [][]int, model []bool) bool {
	for _, c := range clauses {
		if !containsTrue(c, model) {
			return false
		}
	}
	return true
}

func containsTrue(literals []int, model []bool) bool {
	for _, literal := range literals {
		if model[variable(literal)-1] == (literal > 0) {
			return true
		}
	}
	return false
}

func isProof(n int, clauses, proof [][]int) bool {
	last := len(proof) - 1
	if last < 0 || len(proof[last]) > 0 || !areClauses(n, proof, api.MaxSteps, api.MaxAtoms) {
		return false
	}
	a := newAssignment(n)
	consistent := a.addAll(clauses)
	for i := 0; consistent && i < len(proof); i++ {
		if !a.follows(proof[i]) {
			return false
		}
		consistent = a.add(proof[i])
	}
	return !consistent
}

// follows tells whether the clauses and the opposites of the literals end in a conflict.
func (a *assignment) follows(literals []int) bool {
	a.open()
	conflict := a.deny(literals) || a.propagate() != nil
	a.retreat(0)
	return conflict
}

// deny assigns the opposites of literals, unless one of the literals is true.
func (a *assignment) deny(literals []int) (conflict bool) {
	for _, literal := range literals {
		switch {
		case a.isTrue(literal):
			return true
		case !a.isFalse(literal):
			a.assign(-literal, nil)
		}
	}
	return false
}
