package house_test

import (
	"fmt"
	"slices"
	"testing"

	"acrospire/api"
	"acrospire/digest"
)

// P11.4, the first example
func TestExamples(t *testing.T) {
	h := api.House{Beds: 1, Cells: 2, Full: 100, Grain: api.Grain{Num: 1, Den: 4}, Levels: 8, Factor: 10, Sites: 1, Pages: 400}
	x := mustNew(t, h)
	mustSay(t, x, "receive 50", "lot 0", "charge 0 0 20", "lot 1", "steep 0 130", "rest 0")
	mustHold(t, x, 0, 1, 100, 30)
	mustSay(t, x, "tick 1", "lost 0")
	mustHold(t, x, 0, 1, 83, 47)
	mustSay(t, x, "cook 0 100 emit 3;emit 0", "done 1")
	mustHold(t, x, 0, 1, 47, 83)
}

// P11.4
func TestCharge(t *testing.T) {
	x := begin(t)
	mustSay(t, x, "receive 50", "lot 0", "receive 9", "lot 1", "charge 1 0 20", "lot 2", "charge 0 2 5", "lot 3")
	mustHold(t, x, 1, 2, 0, 0, 0)
	mustHold(t, x, 0, 3, 0, 0, 0)
	if parts, e := x.Book().Parts(3); e != api.OK || !slices.Equal(parts, []api.Part{{Lot: 2, Mass: 5}}) {
		t.Errorf("Parts(3) = %v, %d", parts, e)
	}
	mustRefuse(t, x, api.ErrRange, "charge 2 0 5", "charge 2 99 0", "charge 9223372036854775807 0 5")
	mustRefuse(t, x, api.ErrBusy, "charge 0 0 5", "charge 1 0 5", "charge 1 99 0", "charge 1 0 500")
	mustSay(t, x, "steep 1 70", "rest 0", "empty 1", "lot 2")
	mustRefuse(t, x, api.ErrArg, "charge 1 0 0", "charge 1 99 0", "charge 1 0 1099511627777")
	mustRefuse(t, x, api.ErrNone, "charge 1 4 5", "charge 1 99 5")
	mustRefuse(t, x, api.ErrMass, "charge 1 0 31", "charge 1 1 10")
	mustSay(t, x, "charge 1 0 30", "lot 4")
	mustHold(t, x, 1, 4, 0, 0, 0)
}

// P11.4
func TestSteepAndTurn(t *testing.T) {
	x := begin(t)
	mustSay(t, x, "receive 50", "lot 0", "charge 0 0 20", "lot 1", "charge 1 0 20", "lot 2", "steep 0 1300", "rest 0", "steep 1 0", "rest 0")
	mustHold(t, x, 0, 1, 1000, 300, 0)
	mustHold(t, x, 1, 2, 0, 0, 0)
	mustSay(t, x, "turn 0", "ok", "turn 1", "ok")
	mustHold(t, x, 0, 1, 0, 300, 1000)
	mustSay(t, x, "steep 0 1705", "rest 5")
	mustHold(t, x, 0, 1, 1000, 1000, 1000)
	mustSay(t, x, "steep 0 17", "rest 17", "steep 1 1000", "rest 0", "turn 1", "ok", "steep 1 1", "rest 0")
	mustHold(t, x, 1, 2, 1, 0, 1000)
	mustSay(t, x, "empty 1", "lot 2")
	mustRefuse(t, x, api.ErrRange, "steep 2 5", "turn 2", "steep 9223372036854775807 5", "turn 9223372036854775807")
	mustRefuse(t, x, api.ErrNone, "steep 1 5", "turn 1")
	if x.Time() != 0 {
		t.Errorf("time %d", x.Time())
	}
}

// P11.4
func TestRead(t *testing.T) {
	x := begin(t)
	mustSay(t, x, "receive 50", "lot 0", "charge 0 0 20", "lot 1", "steep 0 1300", "rest 0", "read 0", "spread 1000", "turn 0", "ok", "read 0", "spread 1000")
	mustHaveNodes(t, x.Digest(), digest.Node{ID: 1024, Count: 2}, digest.Node{ID: 1324, Count: 2}, digest.Node{ID: 2024, Count: 2})
	mustHold(t, x, 0, 1, 0, 300, 1000)
	mustRefuse(t, x, api.ErrRange, "read 2", "read 9223372036854775807")
	mustRefuse(t, x, api.ErrNone, "read 1")
}

// P11.4
func TestReadKnowsTheGreatestValue(t *testing.T) {
	for levels, values := range map[int][]int{3: {7, 7, 6}, 4: {15, 8, 6}, 1: {1, 1, 1}, 20: {20, 8, 6}} {
		h := plant(1, 3, 20)
		h.Levels, h.Factor, h.Full = levels, 1000, 20
		x := mustNew(t, h)
		mustSay(t, x, "receive 50", "lot 0", "charge 0 0 20", "lot 1", "steep 0 6", "rest 0", "turn 0", "ok", "steep 0 28", "rest 0")
		mustHold(t, x, 0, 1, 20, 8, 6)
		mustSay(t, x, "read 0", "spread 14")
		want, _ := digest.New(levels, 1000)
		for _, value := range values {
			want, _ = want.Add(value, 1)
		}
		mustHaveNodes(t, x.Digest(), want.Nodes()...)
		if x.Digest().Count() != 3 {
			t.Errorf("%d values", x.Digest().Count())
		}
	}
}

// P11.4: the order of the values, and that each is added by itself, tell in a small digest.
func TestReadGoesFromTheTop(t *testing.T) {
	h := plant(1, 6, 20)
	h.Levels, h.Factor, h.Full = 3, 3, 7
	x := mustNew(t, h)
	mustSay(t, x, "receive 50", "lot 0", "charge 0 0 20", "lot 1", "steep 0 7", "rest 0", "turn 0", "ok", "steep 0 20", "rest 0")
	mustHold(t, x, 0, 1, 7, 7, 6, 0, 0, 7)
	mustSay(t, x, "read 0", "spread 7")
	down, up := added(t, 7, 7, 6, 0, 0, 7), added(t, 7, 0, 0, 6, 7, 7)
	if slices.Equal(down.Nodes(), up.Nodes()) {
		t.Fatalf("the order does not tell")
	}
	mustHaveNodes(t, x.Digest(), down.Nodes()...)
}

// added returns a digest of 3 levels with the factor 3.
func added(t *testing.T, values ...int) digest.Digest {
	t.Helper()
	d, e := digest.New(3, 3)
	for _, value := range values {
		if e == api.OK {
			d, e = d.Add(value, 1)
		}
	}
	if e != api.OK {
		t.Fatalf("Add: %d", e)
	}
	return d
}

func mustHaveNodes(t *testing.T, d digest.Digest, want ...digest.Node) {
	t.Helper()
	if got := d.Nodes(); !slices.Equal(got, want) {
		t.Fatalf("Nodes = %v, want %v", got, want)
	}
}

// P11.4
func TestEmpty(t *testing.T) {
	x := begin(t)
	mustSay(t, x, "receive 50", "lot 0", "charge 0 0 20", "lot 1", "charge 1 0 10", "lot 2", "steep 1 5", "rest 0", "empty 0", "lot 1")
	mustLackBed(t, x, 0, api.ErrNone)
	mustHold(t, x, 1, 2, 5, 0, 0)
	mustRefuse(t, x, api.ErrNone, "empty 0")
	mustRefuse(t, x, api.ErrRange, "empty 2", "empty 9223372036854775807")
	if _, left, _, _, _ := x.Book().Mass(1); left != 20 {
		t.Errorf("%d are left of lot 1", left)
	}
	mustSay(t, x, "ship 1 20", "ok", "ship 2 10", "ok")
	mustHold(t, x, 1, 2, 5, 0, 0)
}

// P11.4
func TestTick(t *testing.T) {
	h := plant(4, 2, 100)
	h.Grain = api.Grain{Num: 1, Den: 10, Loss: 2}
	x := mustNew(t, h)
	mustSay(t, x, "tick 5", "lost", "receive 50", "lot 0", "charge 2 0 20", "lot 1", "steep 2 100", "rest 0", "tick 1", "lost 20")
	mustHold(t, x, 2, 1, 70, 10)
	mustSay(t, x, "charge 0 0 20", "lot 2", "tick 1", "lost 0 14", "steep 0 1050", "rest 0", "tick 2", "lost 341 17")
	mustHold(t, x, 2, 1, 29, 20)
	mustHold(t, x, 0, 2, 508, 201)
	if x.Time() != 9 {
		t.Errorf("time %d", x.Time())
	}
	mustRefuse(t, x, api.ErrArg, "tick 0", "tick 4097", "tick 9223372036854775807")
	mustSay(t, x, "tick 4096", "lost 692 32")
	mustHold(t, x, 0, 2, 4, 13)
	mustHold(t, x, 2, 1, 4, 13)
	if x.Time() != 4105 {
		t.Errorf("time %d", x.Time())
	}
}

// P11.4: a bed at rest stays so, but the time goes on.
func TestTickAtRest(t *testing.T) {
	x := begin(t)
	mustSay(t, x, "receive 50", "lot 0", "charge 1 0 20", "lot 1", "steep 1 2", "rest 0", "tick 4096", "lost 0", "tick 3", "lost 0")
	mustHold(t, x, 1, 1, 2, 0, 0)
	if x.Time() != 4099 {
		t.Errorf("time %d", x.Time())
	}
}

// P11.4
func TestCook(t *testing.T) {
	for _, c := range []struct {
		recipe string
		pairs  int
		cells  [3]int
	}{
		{"emit 3;emit 0", 1, [3]int{0, 300, 1000}},
		{"emit 3;emit -5", 1, [3]int{0, 300, 1000}},
		{"emit 3\nemit 9", 1, [3]int{0, 300, 1000}},
		{"emit 1;emit 900", 1, [3]int{1000, 1000, 200}},
		{"emit 1;emit 9007199254740992", 1, [3]int{1000, 1000, 1000}},
		{"emit 1;emit 0", 1, [3]int{1000, 300, 0}},
		{"emit 2;emit 1", 1, [3]int{825, 400, 75}},
		{"emit 2;emit 2", 1, [3]int{719, 425, 156}},
		{"emit 2;emit 0", 1, [3]int{1000, 300, 0}},
		{"emit 2;emit 4096", 1, [3]int{436, 433, 431}},
		{"emit 3;emit 0;emit 1;emit 8", 2, [3]int{8, 300, 1000}},
		{"emit 1;emit 8;emit 3;emit 0", 2, [3]int{0, 308, 1000}},
		{"emit 2;emit 1;emit 2;emit 1", 2, [3]int{719, 425, 156}},
		{"#", 0, [3]int{1000, 300, 0}},
		{" ", 0, [3]int{1000, 300, 0}},
		{"#\xff\x00;  emit 3 ; emit 0", 1, [3]int{0, 300, 1000}},
		{"let i 5;while i;emit 3;emit i;let i i-1;end", 5, [3]int{0, 300, 1000}},
	} {
		x := begin(t)
		mustSay(t, x, "receive 50", "lot 0", "charge 1 0 20", "lot 1", "steep 1 1300", "rest 0")
		mustSay(t, x, "cook 1 300 "+c.recipe, fmt.Sprint("done ", c.pairs))
		mustHold(t, x, 1, 1, c.cells[:]...)
		if x.Time() != 0 || x.Acts() != 4 {
			t.Errorf("%q: time %d, %d acts", c.recipe, x.Time(), x.Acts())
		}
	}
}

// P11.4: a recipe pours as much as an input says onto a top cell that can take it.
func TestCookKnowsTheBed(t *testing.T) {
	for value, poured := range map[string]int{
		"time": 2, "top": 70, "bottom": 25, "spread": 45, "total": 120, "top-bottom": 45, "x+i+times": 0, "time+x*(10/2)": 2,
	} {
		h := plant(2, 3, 100)
		h.Grain = api.Grain{Num: 1, Den: 2}
		x := mustNew(t, h)
		mustSay(t, x, "receive 50", "lot 0", "charge 1 0 20", "lot 1", "steep 1 100", "rest 0", "tick 2", "lost 0", "steep 1 20", "rest 0")
		mustHold(t, x, 1, 1, 70, 25, 25)
		mustSay(t, x, "cook 1 100 emit 1;emit "+value, "done 1")
		mustHold(t, x, 1, 1, 70+poured, 25, 25)
	}
}

// P11.4: what is done with a bed is not yet known when its recipe runs.
func TestCookMeasuresOnce(t *testing.T) {
	x := begin(t)
	mustSay(t, x, "receive 50", "lot 0", "charge 0 0 20", "lot 1", "steep 0 10", "rest 0", "cook 0 99 emit 1;emit top;emit 1;emit top", "done 2")
	mustHold(t, x, 0, 1, 30, 0, 0)
}

// P11.4: the moisture that is lost and the water that is left are not told.
func TestCookLoses(t *testing.T) {
	h := plant(2, 2, 100)
	h.Grain = api.Grain{Num: 0, Den: 2, Loss: 1}
	x := mustNew(t, h)
	mustSay(t, x, "receive 50", "lot 0", "charge 0 0 20", "lot 1", "charge 1 0 20", "lot 2", "steep 1 40", "rest 0")
	mustSay(t, x, "cook 0 99 emit 1;emit 5000;emit 2;emit 3", "done 2", "tick 1", "lost 62 20")
	mustHold(t, x, 0, 1, 63, 1000)
	mustHold(t, x, 1, 2, 20, 0)
}

// P11.4
func TestWrongRecipes(t *testing.T) {
	x := begin(t)
	mustSay(t, x, "receive 50", "lot 0", "charge 0 0 20", "lot 1", "steep 0 1300", "rest 0")
	mustRefuse(t, x, api.ErrRange, "cook 2 100 emit 3;emit 0", "cook 9223372036854775807 9999999 emit")
	mustRefuse(t, x, api.ErrNone, "cook 1 100 emit 3;emit 0", "cook 1 9999999 emit")
	mustRefuse(t, x, api.ErrArg, "cook 0 1048577 emit 3;emit 0", "cook 0 1048577 emit", "cook 0 9223372036854775807 1")
	mustRefuse(t, x, api.ErrSyntax, "cook 0 100 emit", "cook 0 100 emit 3;emit 0;emit", "cook 0 100 emit 3;emit 0;end", "cook 0 0 emit", "cook 0 100 emit x\x00",
		"cook 0 100 while 1", "cook 0 100 emit 3 emit 0", "cook 0 100 emit 3,emit 0", "cook 0 1048576 let TOP 1")
	mustRefuse(t, x, api.ErrValue, "cook 0 100 emit 1/0", "cook 0 100 emit 3;emit 0;emit 1%x", "cook 0 100 emit 9;let x 9007199254740992+1")
	mustRefuse(t, x, api.ErrFull, "cook 0 1048576 while 1;emit 1;end", "cook 0 1048576 while 1;emit 0;end")
	mustRefuse(t, x, api.ErrState, "cook 0 1048576 while 1;end", "cook 0 0 emit 3;emit 0", "cook 0 0 #", "cook 0 1 emit 1/0", "cook 0 2 emit 9;emit 1/0",
		"cook 0 8000 while 1;emit 1;end")
	mustRefuse(t, x, api.ErrArg, "cook 0 100 emit 3", "cook 0 100 emit 3;emit 0;emit 3", "cook 0 100 emit 0;emit 0", "cook 0 100 emit 4;emit 0",
		"cook 0 100 emit -1;emit 5", "cook 0 100 emit 1;emit -1", "cook 0 100 emit 2;emit -1", "cook 0 100 emit 2;emit 4097",
		"cook 0 100 emit 1;emit 9;emit 3;emit 0;emit 0;emit 0", "cook 0 100 emit 3;emit 0;emit 2;emit 9007199254740992")
	mustHold(t, x, 0, 1, 1000, 300, 0)
}

// P11.4: a recipe may emit as much as layer 10 allows.
func TestLongRecipes(t *testing.T) {
	x := begin(t)
	mustSay(t, x, "receive 50", "lot 0", "charge 0 0 20", "lot 1", "steep 0 1300", "rest 0")
	mustSay(t, x, "cook 0 1048576 let i 2048;while i;emit 3;emit 0;let i i-1;end", "done 2048")
	mustHold(t, x, 0, 1, 1000, 300, 0)
	mustRefuse(t, x, api.ErrFull, "cook 0 1048576 let i 2049;while i;emit 3;emit 0;let i i-1;end")
}
