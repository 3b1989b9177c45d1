package sync

import (
	"strings"
	"testing"

	"acrospire/api"
)

// As many writes cannot be made in a test, so that this one makes a table that has seen them.
func TestSitesCanWriteOnlySoOften(t *testing.T) {
	var table Table
	table.numbers[2] = 1<<40 - 2
	for count := 1<<40 - 1; count <= 1<<40; count++ {
		next, e := table.Put(2, "k", "x")
		want := api.Entry{Key: "k", Value: "x", Dot: api.Dot{Site: 2, Count: count}}
		if list := next.Entries(); e != api.OK || len(list) != 1 || list[0] != want || next.Seen(2) != count {
			t.Fatalf("Put: %v, %d, %d", list, next.Seen(2), e)
		}
		table = next
	}
	long := strings.Repeat("x", 65)
	for _, refused := range []struct {
		key, value string
		want       api.Errno
	}{{"k", "x", api.ErrFull}, {"k", "y", api.ErrFull}, {"j", "x", api.ErrFull}, {"", "x", api.ErrArg}, {"k", long, api.ErrArg}} {
		if next, e := table.Put(2, refused.key, refused.value); e != refused.want || !Equal(next, Table{}) {
			t.Errorf("Put(2, %q, %q): %d", refused.key, refused.value, e)
		}
	}
	if _, e := table.Put(1, "j", "x"); e != api.OK {
		t.Errorf("Put of another site: %d", e)
	}
}
