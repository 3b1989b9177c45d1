package sat_test

import (
	"math/rand"
	"slices"
	"testing"

	"acrospire/api"
	"acrospire/sat"
)

// Proofs that Check accepts, whoever made them, are only of formulas without models.
func TestRefutedFormulasHaveNoModel(t *testing.T) {
	r := rand.New(rand.NewSource(42))
	accepted := 0
	for range 30000 {
		n := 1 + r.Intn(4)
		list := random(r, n, r.Intn(7*n), 1, 3)
		steps := append(random(r, n, r.Intn(4), 0, 2), []int{})
		if sat.Check(n, list, proof(steps)) != api.OK {
			continue
		}
		accepted++
		if found := models(n, list); len(found) > 0 {
			t.Fatalf("%v is a proof for %v, which has the model %v", steps, list, found[0])
		}
	}
	if accepted < 1000 {
		t.Errorf("only %d proofs", accepted)
	}
}

// isShown tells whether Check takes a clause to follow: the formula and the opposites
// of the literals are then refuted without any step.
func isShown(n int, list [][]int, c []int) bool {
	list = slices.Clone(list)
	for _, literal := range c {
		list = append(list, []int{-literal})
	}
	return sat.Check(n, list, proof([][]int{{}})) == api.OK
}

func TestClausesThatFollowKeepTheModels(t *testing.T) {
	r := rand.New(rand.NewSource(43))
	count := map[bool]int{}
	for range 5000 {
		n := 2 + r.Intn(4)
		list := random(r, n, 1+r.Intn(4*n), 1, 3)
		c := random(r, n, 1, 1, 3)[0]
		shown := isShown(n, list, c)
		if shown != follows(n, list, c) {
			t.Fatalf("%v follows from %v: %t", c, list, shown)
		}
		if !shown {
			continue
		}
		with := append(slices.Clone(list), c)
		before, after := models(n, list), models(n, with)
		if !slices.EqualFunc(before, after, slices.Equal[[]bool]) {
			t.Fatalf("%v changes the models of %v", c, list)
		}
		if one, other := decided(t, n, list), decided(t, n, with); one.Status != other.Status {
			t.Fatalf("%v changes the status of %v", c, list)
		}
		count[len(before) > 0]++
	}
	if count[true] < 300 || count[false] < 300 {
		t.Errorf("models %v", count)
	}
}

// The steps of a proof can be added to the formula one by one; the rest stays a proof.
func TestStepsCanBeAdded(t *testing.T) {
	n, list := holes(5, 4)
	v := solved(t, n, list, api.MaxBudget)
	for len(v.Proof) > 1 {
		list = append(list, v.Proof[0])
		v.Proof = v.Proof[1:]
		mustCheck(t, n, list, v, api.OK)
		if again := solved(t, n, list, api.MaxBudget); again.Status != api.Refuted {
			t.Fatalf("%v", again)
		}
	}
}
