package house_test

import (
	"fmt"
	"slices"
	"testing"

	"acrospire/api"
)

// P11.3
func TestLots(t *testing.T) {
	x := begin(t)
	mustSay(t, x, "receive 100", "lot 0", "receive 50", "lot 1", "blend 0 40 1 10", "lot 2", "blend 2 20 0 5 2 10", "lot 3", "ship 3 4", "ok",
		"discard 1 6", "ok", "ship 3 5", "ok", "blend 1 1", "lot 4", "receive 1099511627776", "lot 5")
	mustHaveText(t, x, "time 0", "lot 0 100 55 0 0", "lot 1 50 33 0 6", "lot 2 50 20 0 0", "lot 3 35 26 9 0", "lot 4 1 1 0 0",
		"lot 5 1099511627776 1099511627776 0 0", "bed 0 empty", "bed 1 empty", "site 0 0 0 0 0 0 0 0 0", "site 1 0 0 0 0 0 0 0 0", "site 2 0 0 0 0 0 0 0 0")
	parts, e := x.Book().Parts(3)
	if want := []api.Part{{Lot: 2, Mass: 30}, {Lot: 0, Mass: 5}}; e != api.OK || !slices.Equal(parts, want) {
		t.Errorf("Parts(3) = %v, %d, want %v", parts, e, want)
	}
}

// P11.3
func TestWrongLots(t *testing.T) {
	x := begin(t)
	mustSay(t, x, "receive 100", "lot 0", "receive 50", "lot 1", "receive 1099511627776", "lot 2")
	mustRefuse(t, x, api.ErrArg, "receive 0", "receive 1099511627777", "blend 0 0", "blend 0 5 1 0", "blend 9 0", "blend 0 1099511627777",
		"ship 0 0", "ship 1 1099511627777", "discard 0 0", "discard 1 1099511627777")
	mustRefuse(t, x, api.ErrNone, "blend 3 5", "blend 0 5 3 5", "blend 0 500 3 5", "ship 3 5", "ship 3 0", "discard 3 5", "discard 9223372036854775807 5")
	mustRefuse(t, x, api.ErrMass, "blend 0 101", "blend 0 51 0 50", "blend 0 5 1 51", "blend 0 1 2 1099511627776", "ship 0 101", "discard 1 51")
	mustSay(t, x, "ship 0 100", "ok", "discard 1 50", "ok", "ship 0 1", "error 50", "discard 1 1", "error 50", "blend 0 1", "error 50")
}

// P11.3, P11.4
func TestTooManyLots(t *testing.T) {
	x := mustNew(t, plant(1, 1, 300))
	for lot := range 256 {
		mustSay(t, x, "receive 5", fmt.Sprint("lot ", lot))
	}
	mustRefuse(t, x, api.ErrFull, "receive 5", "blend 0 5", "charge 0 0 5")
	mustRefuse(t, x, api.ErrArg, "receive 0", "blend 0 0", "charge 0 0 0")
	mustRefuse(t, x, api.ErrMass, "blend 0 6", "charge 0 0 6")
	mustSay(t, x, "ship 255 5", "ok")
}
