package sat

import "acrospire/api"

// AtMost returns clauses that allow at most k of the literals to be true, and the
// number of the variables, including new ones.
func AtMost(n int, literals []int, k int) ([][]int, int, api.Errno) {
	if n < 0 || n > api.MaxAtoms || len(literals) > api.MaxWidth || !areLiterals(n, literals) || k < 0 {
		return nil, 0, api.ErrArg
	}
	k = min(k, len(literals))
	if n+k*len(literals) > api.MaxAtoms {
		return nil, 0, api.ErrFull
	}
	if k == len(literals) {
		return nil, n, api.OK
	}
	return tally(n, literals, k), n + k*len(literals), api.OK
}

// tally returns clauses by which the new variables count the literals that are true.
func tally(n int, literals []int, k int) [][]int {
	// reached is true if more than j literals are true among those up to i.
	reached := func(i, j int) int { return n + i*k + j + 1 }
	var clauses [][]int
	for i, literal := range literals {
		for j := range min(i, k) {
			clauses = append(clauses, []int{-reached(i-1, j), reached(i, j)})
		}
		for j := range min(i, k) + 1 {
			c := []int{-literal}
			if j > 0 {
				c = append(c, -reached(i-1, j-1))
			}
			if j < k {
				c = append(c, reached(i, j))
			}
			clauses = append(clauses, c)
		}
	}
	return clauses
}
