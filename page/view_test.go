package page_test

import (
	"maps"
	"math/rand"
	"testing"

	"acrospire/api"
	"acrospire/page"
)

func TestView(t *testing.T) {
	_, s := begin(t, 100)
	empty := mustView(t, s)
	put(t, s, "a", "1")
	// A view has what was committed, not what is current.
	mustHave(t, mustView(t, s), nil)
	must(t, "Commit", s.Commit(), api.OK)
	v := mustView(t, s)
	put(t, s, "a", "2", "b", "3")
	mustHave(t, v, of("a", "1"))
	must(t, "Commit", s.Commit(), api.OK)
	must(t, "Delete", s.Delete("a"), api.OK)
	must(t, "Commit", s.Commit(), api.OK)
	must(t, "Rollback", s.Rollback(), api.OK)
	mustHave(t, empty, nil)
	mustHave(t, v, of("a", "1"))
	mustHave(t, mustView(t, s), of("b", "3"))
	mustHave(t, s, of("b", "3"))
}

func TestNumberOfViews(t *testing.T) {
	d, s := begin(t, 36)
	var views []*page.View
	for range 4 {
		views = append(views, mustView(t, s))
	}
	for _, v := range views {
		if other, e := s.View(); other != nil || e != api.ErrFull {
			t.Errorf("View = %p, %d", other, e)
		}
		must(t, "Close", v.Close(), api.OK)
		must(t, "Close", v.Close(), api.ErrEnded)
		mustView(t, s)
	}
	// A broken store, and one without power, say so even if it has all of its views.
	c, full := begin(t, 36)
	for range 4 {
		mustView(t, full)
	}
	must(t, "Fuse", c.Fuse(0), api.OK)
	must(t, "Sync", c.Sync(), api.ErrOff)
	for _, want := range []api.Errno{api.ErrOff, api.ErrBroken} {
		if v, e := full.View(); v != nil || e != want {
			t.Errorf("View = %p, %d, want %d", v, e, want)
		}
	}
	must(t, "Crash", d.Crash(nil), api.OK)
	if v, e := s.View(); v != nil || e != api.ErrBroken {
		t.Errorf("View = %p, %d", v, e)
	}
}

func TestClose(t *testing.T) {
	d, s := begin(t, 36)
	put(t, s, "a", "1", "b", "2")
	must(t, "Commit", s.Commit(), api.OK)
	v, other, last := mustView(t, s), mustView(t, s), mustView(t, s)
	must(t, "Close", v.Close(), api.OK)
	mustRefuse(t, v, api.ErrEnded)
	if v.Len() != 2 {
		t.Errorf("Len = %d", v.Len())
	}
	mustHave(t, other, of("a", "1", "b", "2"))
	mustHave(t, s, of("a", "1", "b", "2"))
	// It is possible without power, and for a broken store.
	must(t, "Fuse", d.Fuse(0), api.OK)
	must(t, "Sync", d.Sync(), api.ErrOff)
	must(t, "Close", other.Close(), api.OK)
	mustRefuse(t, other, api.ErrEnded)
	must(t, "Crash", d.Crash(nil), api.OK)
	mustRefuse(t, last, api.ErrBroken)
	must(t, "Close", last.Close(), api.OK)
	must(t, "Close", last.Close(), api.ErrEnded)
	mustRefuse(t, last, api.ErrEnded)
	if last.Len() != 2 {
		t.Errorf("Len = %d", last.Len())
	}
}

func TestUnusableViews(t *testing.T) {
	for name, v := range map[string]*page.View{"nil": nil, "zero": {}} {
		mustRefuse(t, v, api.ErrUnusable)
		must(t, name+": Close", v.Close(), api.ErrUnusable)
		if v.Len() != 0 {
			t.Errorf("%s: Len = %d", name, v.Len())
		}
	}
}

// TestViewsSeeNoChange has views of states of all ages, of full stores as well.
func TestViewsSeeNoChange(t *testing.T) {
	r := rand.New(rand.NewSource(158))
	for round := range 40 {
		pages := []int{20, 52, 200, 2000}[round%4]
		_, s := begin(t, pages)
		committed, current := contents{}, contents{}
		views, states := [4]*page.View{}, [4]contents{}
		for range 40 {
			i := r.Intn(4)
			if views[i] != nil {
				must(t, "Close", views[i].Close(), api.OK)
			}
			views[i], states[i] = mustView(t, s), committed
			change(t, r, s, current, roomOf(pages))
			if r.Intn(3) > 0 {
				must(t, "Commit", s.Commit(), api.OK)
				committed = maps.Clone(current)
			}
			for number, v := range views {
				if v != nil {
					mustHave(t, v, states[number])
				}
			}
		}
	}
}
