package sync_test

import (
	"math"
	"math/rand"
	"slices"
	"strconv"
	"strings"
	"testing"
	"unsafe"

	"acrospire/api"
	"acrospire/sync"
)

func TestPut(t *testing.T) {
	a := mustPut(t, sync.Table{}, 0, "k", "x")
	mustHave(t, a, seen(1), entry("k", "x", 0, 1))
	b := mustPut(t, a, 0, "k", "y")
	mustHave(t, b, seen(2), entry("k", "y", 0, 2))
	c := mustPut(t, b, 2, "k", "y")
	mustHave(t, c, seen(2, 0, 1), entry("k", "y", 2, 1))
	d := mustPut(t, c, 0, "j", "")
	mustHave(t, d, seen(3, 0, 1), entry("j", "", 0, 3), entry("k", "y", 2, 1))
	// The same write once more is another one.
	mustHave(t, mustPut(t, a, 0, "k", "x"), seen(2), entry("k", "x", 0, 2))
	// The tables from which others were made are as they were.
	mustHave(t, c, seen(2, 0, 1), entry("k", "y", 2, 1))
	mustHave(t, b, seen(2), entry("k", "y", 0, 2))
	mustHave(t, a, seen(1), entry("k", "x", 0, 1))
	mustHave(t, sync.Table{}, seen())
}

func TestPutOfAllSites(t *testing.T) {
	var table sync.Table
	var numbers [api.MaxSites]int
	for site := range api.MaxSites {
		for range site + 1 {
			table = mustPut(t, table, site, "k", "x")
		}
		numbers[site] = site + 1
		mustHave(t, table, numbers, entry("k", "x", site, site+1))
	}
}

func TestPutReplacesAllValuesOfItsKey(t *testing.T) {
	other := entry("j", "stays", 6, 1)
	table := mustPut(t, sync.Table{}, 6, "j", "stays")
	for site := range 5 {
		table = sync.Merge(table, mustPut(t, sync.Table{}, site, "k", strconv.Itoa(site)))
	}
	if list := table.Get("k"); len(list) != 5 {
		t.Fatalf("Get = %q", list)
	}
	mustHave(t, mustPut(t, table, 3, "k", "z"), seen(1, 1, 1, 2, 1, 0, 1), other, entry("k", "z", 3, 2))
	mustHave(t, mustPut(t, table, 7, "k", "z"), seen(1, 1, 1, 1, 1, 0, 1, 1), other, entry("k", "z", 7, 1))
	mustHave(t, table.Remove("k"), seen(1, 1, 1, 1, 1, 0, 1), other)
}

func TestTexts(t *testing.T) {
	long, longer := strings.Repeat("k", 64), strings.Repeat("k", 65)
	table := mustPut(t, sync.Table{}, 0, long, long)
	mustHave(t, table, seen(1), entry(long, long, 0, 1))
	mustHave(t, mustPut(t, sync.Table{}, 0, "\x00", ""), seen(1), entry("\x00", "", 0, 1))
	// A text has so many bytes, not characters.
	wide := strings.Repeat("é", 32)
	mustHave(t, mustPut(t, sync.Table{}, 0, wide, wide), seen(1), entry(wide, wide, 0, 1))
	for _, key := range []string{"", longer, strings.Repeat("é", 33), strings.Repeat("x", 1<<20)} {
		mustRefusePut(t, sync.Table{}, 0, key, "x", api.ErrArg)
		mustRefusePut(t, table, 7, key, longer, api.ErrArg)
	}
	for _, value := range []string{longer, strings.Repeat("é", 33), strings.Repeat("x", 1<<20)} {
		mustRefusePut(t, sync.Table{}, 0, "k", value, api.ErrArg)
		mustRefusePut(t, table, 7, long, value, api.ErrArg)
	}
}

var noSites = []int{-1, 8, 9, 64, -8, 1 << 32, -1 << 32, math.MaxInt, math.MinInt}

func TestSitesThatDoNotExist(t *testing.T) {
	full := keys(t, 64)
	for _, site := range noSites {
		for _, table := range []sync.Table{{}, full} {
			mustRefusePut(t, table, site, "k", "x", api.ErrReplica)
			mustRefusePut(t, table, site, "", "x", api.ErrReplica)
			mustRefusePut(t, table, site, "k", strings.Repeat("x", 65), api.ErrReplica)
			if got := table.Seen(site); got != 0 {
				t.Errorf("Seen(%d) = %d", site, got)
			}
		}
	}
}

// keys makes a table of so many keys, in which each was written twice.
func keys(t *testing.T, count int) sync.Table {
	t.Helper()
	var table sync.Table
	for i := range count {
		table = mustPut(t, mustPut(t, table, 0, strconv.Itoa(i), "first"), 0, strconv.Itoa(i), "second")
	}
	return table
}

func TestFullTables(t *testing.T) {
	almost := keys(t, 63)
	full := mustPut(t, almost, 5, "k", "x")
	for site := range api.MaxSites {
		mustPut(t, almost, site, "j", "x")
		mustRefusePut(t, full, site, "j", "x", api.ErrFull)
		mustRefusePut(t, full, site, "", "x", api.ErrArg)
		mustRefusePut(t, full, site, "j", strings.Repeat("x", 65), api.ErrArg)
		again := mustPut(t, full, site, "6", "y")
		if list := again.Get("6"); !slices.Equal(list, []string{"y"}) || len(again.Entries()) != 64 {
			t.Errorf("Get = %q among %d entries", list, len(again.Entries()))
		}
		mustRefusePut(t, again, site, "j", "x", api.ErrFull)
		mustPut(t, full.Remove("6"), site, "j", "x")
		mustRefusePut(t, full.Remove("j"), site, "j", "x", api.ErrFull)
	}
	if len(full.Entries()) != 64 || full.Seen(0) != 126 || full.Seen(5) != 1 {
		t.Errorf("the full table has %v", full.Entries())
	}
}

// A merge can have more keys than a table can get by writing.
func TestTablesThatAreMoreThanFull(t *testing.T) {
	var table sync.Table
	for site := range 2 {
		var one sync.Table
		for i := range 64 {
			one = mustPut(t, one, site, strconv.Itoa(64*site+i), "x")
		}
		table = sync.Merge(table, one)
	}
	if len(table.Entries()) != 128 {
		t.Fatalf("the merge has %d entries", len(table.Entries()))
	}
	for range 65 {
		mustRefusePut(t, table, 2, "k", "x", api.ErrFull)
		list := table.Entries()
		table = mustPut(t, table, 2, list[len(list)-1].Key, "y").Remove(list[0].Key)
	}
	if len(table.Entries()) != 63 {
		t.Fatalf("%d entries are left", len(table.Entries()))
	}
	mustPut(t, table, 2, "k", "x")
}

// Many values of few keys leave room for other keys.
func TestKeysAreCountedNotEntries(t *testing.T) {
	var table sync.Table
	for site := range api.MaxSites {
		var one sync.Table
		for i := range 20 {
			one = mustPut(t, one, site, strconv.Itoa(i), "x")
		}
		table = sync.Merge(table, one)
	}
	if len(table.Entries()) != 160 {
		t.Fatalf("the merge has %d entries", len(table.Entries()))
	}
	for i := range 44 {
		table = mustPut(t, table, 0, strconv.Itoa(20+i), "x")
	}
	mustRefusePut(t, table, 0, "k", "x", api.ErrFull)
}

func TestRemove(t *testing.T) {
	table := mustPut(t, mustPut(t, sync.Table{}, 0, "a", "1"), 1, "ab", "2")
	a, ab := entry("a", "1", 0, 1), entry("ab", "2", 1, 1)
	mustHave(t, table.Remove("a"), seen(1, 1), ab)
	mustHave(t, table.Remove("ab"), seen(1, 1), a)
	mustHave(t, table.Remove("a").Remove("ab"), seen(1, 1))
	for _, key := range []string{"", "b", "A", "a\x00", "abc", strings.Repeat("a", 65), strings.Repeat("x", 1<<20)} {
		mustHave(t, table.Remove(key), seen(1, 1), a, ab)
		mustHave(t, sync.Table{}.Remove(key), seen())
		if list := table.Get(key); len(list) != 0 {
			t.Errorf("Get(%q) = %q", key, list)
		}
	}
	// A write behind it goes on counting.
	mustHave(t, mustPut(t, table.Remove("a"), 0, "a", "1"), seen(2, 1), entry("a", "1", 0, 2), ab)
	mustHave(t, table, seen(1, 1), a, ab)
}

func TestEntriesAreInOrder(t *testing.T) {
	order := []string{"\x00", " ", "Z", "a", "a\x00", "aa", "ab", "b", "z", "é", "\xff", "\xff\x00"}
	r := rand.New(rand.NewSource(141))
	for range 20 {
		var table sync.Table
		var want []api.Entry
		for _, i := range r.Perm(len(order)) {
			table = mustPut(t, table, 3, order[i], strconv.Itoa(i))
		}
		for i, key := range order {
			at := slices.IndexFunc(table.Entries(), func(e api.Entry) bool { return e.Key == key })
			want = append(want, entry(key, strconv.Itoa(i), 3, table.Entries()[at].Dot.Count))
		}
		mustHave(t, table, seen(0, 0, 0, len(order)), want...)
	}
}

func TestValuesAreInTheOrderOfTheirSites(t *testing.T) {
	r := rand.New(rand.NewSource(142))
	for range 20 {
		var table sync.Table
		for _, site := range r.Perm(api.MaxSites) {
			// Later sites have lower counts and lesser values.
			var one sync.Table
			for range 8 - site {
				one = mustPut(t, one, site, "k", string(rune('z'-site)))
			}
			table = sync.Merge(table, one)
		}
		if list := table.Get("k"); strings.Join(list, "") != "zyxwvuts" {
			t.Fatalf("Get = %q", list)
		}
		mustHave(t, table, seen(8, 7, 6, 5, 4, 3, 2, 1), table.Entries()...)
	}
}

func TestTablesAreAsTheyShouldBe(t *testing.T) {
	forests(t, 143, func(r *rand.Rand, pairs []pair) {
		// All tables are made before the first one is looked at, so that none has changed since.
		for _, p := range pairs {
			mustBe(t, p.table, p.model)
		}
	})
}

func TestResultsAreNewMemory(t *testing.T) {
	forests(t, 144, func(r *rand.Rand, pairs []pair) {
		for _, p := range pairs {
			for _, key := range texts {
				list := p.table.Get(key)
				clear(list[:cap(list)])
			}
			list := p.table.Entries()
			clear(list[:cap(list)])
		}
		for _, p := range pairs {
			mustBe(t, p.table, p.model)
		}
	})
}

func TestTextsAreNotKept(t *testing.T) {
	line := strings.Repeat("k", 1000)
	table := mustPut(t, sync.Table{}, 0, line[:10], line[20:30])
	e := table.Entries()[0]
	if unsafe.StringData(e.Key) == unsafe.StringData(line) || unsafe.StringData(e.Value) == unsafe.StringData(line[20:]) {
		t.Error("the table keeps the text of which its key and its value are parts")
	}
}
