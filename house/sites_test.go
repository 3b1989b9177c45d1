package house_test

import (
	"fmt"
	"slices"
	"testing"

	"acrospire/api"
	"acrospire/house"
)

func mustHaveValues(t *testing.T, x *house.House, site int, key string, want ...string) {
	t.Helper()
	table, e := x.Table(site)
	if got := table.Get(key); e != api.OK || !slices.Equal(got, want) {
		t.Fatalf("site %d has %q for %q, %d, want %q", site, got, key, e, want)
	}
}

// P11.5
func TestSites(t *testing.T) {
	x := begin(t)
	mustSay(t, x, "put 0 k a", "ok", "put 1 k b", "ok", "put 2 j c", "ok", "send 0 1", "ok", "send 1 2", "ok", "send 2 0", "ok")
	mustHaveValues(t, x, 1, "k", "b")
	mustSay(t, x, "deliver 0", "ok")
	mustHaveValues(t, x, 1, "k", "a", "b")
	mustSay(t, x, "repeat 0", "ok")
	mustHaveValues(t, x, 2, "k", "b")
	mustHaveValues(t, x, 2, "j", "c")
	mustSay(t, x, "remove 2 k", "ok", "repeat 0", "ok")
	mustHaveValues(t, x, 2, "k")
	mustSay(t, x, "lose 1", "ok", "deliver 0", "ok", "deliver 0", "error 3", "remove 2 k", "ok")
	mustHaveValues(t, x, 0, "j")
	mustHaveValues(t, x, 0, "k", "a")
	mustSay(t, x, "put 1 k d", "ok", "send 1 1", "ok", "deliver 0", "ok")
	mustHaveValues(t, x, 1, "k", "d")
	if x.Acts() != 16 {
		t.Errorf("%d acts", x.Acts())
	}
}

// P11.5
func TestWrongSites(t *testing.T) {
	x := begin(t)
	mustSay(t, x, "put 0 k v", "ok", "send 0 1", "ok")
	mustRefuse(t, x, api.ErrReplica, "put 3 k v", "put 7 k v", "put 8 k v", "remove 3 k", "send 3 0", "send 0 3", "send 9223372036854775807 0")
	mustRefuse(t, x, api.ErrRange, "lose 1", "deliver 1", "repeat 1", "deliver 9223372036854775807")
	mustSay(t, x, "lose 0", "ok")
	mustRefuse(t, x, api.ErrRange, "lose 0", "deliver 0", "repeat 0")
}

// P11.5
func TestFullSites(t *testing.T) {
	x := mustNew(t, plant(1, 1, 500))
	for number := range 64 {
		mustSay(t, x, fmt.Sprint("put 1 ", number, " v"), "ok")
	}
	mustRefuse(t, x, api.ErrFull, "put 1 64 v")
	mustSay(t, x, "put 1 63 w", "ok", "put 0 64 v", "ok", "remove 1 7", "ok", "put 1 64 v", "ok")
	for range 256 {
		mustSay(t, x, "send 0 1", "ok")
	}
	mustRefuse(t, x, api.ErrFull, "send 0 1", "send 2 2")
	mustRefuse(t, x, api.ErrReplica, "send 0 3")
	mustRefuse(t, x, api.ErrRange, "deliver 256")
	mustSay(t, x, "repeat 255", "ok", "deliver 255", "ok", "send 2 2", "ok")
}
