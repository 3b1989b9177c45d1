package page_test

import (
	"math"
	"math/rand"
	"slices"
	"testing"

	"acrospire/api"
	"acrospire/page"
)

// both returns a store and one of its views, which have the same contents.
func both(t *testing.T, pages int, c contents) (*page.Store, *page.View) {
	t.Helper()
	_, s := begin(t, pages)
	for key, value := range c {
		must(t, "Put", s.Put(key, value), api.OK)
	}
	must(t, "Commit", s.Commit(), api.OK)
	return s, mustView(t, s)
}

func TestGet(t *testing.T) {
	c := contents{}
	for i, key := range texts {
		c[key] = texts[len(texts)-1-i] + "!"
	}
	s, v := both(t, 500, c)
	for name, from := range map[string]reading{"store": s, "view": v} {
		for key, value := range c {
			if got, e := from.Get(key); got != value || e != api.OK {
				t.Errorf("%s: Get(%q) = %q, %d, want %q", name, key, got, e, value)
			}
		}
		for _, key := range []string{"aaa", "c", "a\x00\x01", "b\x00", "\x02", "\xfe", "\xff\xff\xff", tooLong[:30]} {
			mustLack(t, from, key, api.ErrNone)
		}
		for _, key := range []string{"", tooLong, tooLong + tooLong, randomText(rand.New(rand.NewSource(1)), 1<<20)} {
			mustLack(t, from, key, api.ErrArg)
		}
	}
}

func mustScan(t *testing.T, from reading, lo, hi string, most int, want ...string) {
	t.Helper()
	pairs, e := from.Scan(lo, hi, most)
	must(t, "Scan", e, api.OK)
	var keys []string
	for _, p := range pairs {
		keys = append(keys, p.Key)
	}
	if !slices.Equal(keys, want) {
		t.Errorf("Scan(%q, %q, %d) = %q, want %q", lo, hi, most, keys, want)
	}
}

func TestScan(t *testing.T) {
	s, v := both(t, 200, of("a", "1", "ab", "2", "b", "3", "\x00", "", "\xff", "5", "c", "6"))
	for _, from := range []reading{s, v} {
		mustScan(t, from, "", "", 99, "\x00", "a", "ab", "b", "c", "\xff")
		mustScan(t, from, "", "", 6, "\x00", "a", "ab", "b", "c", "\xff")
		mustScan(t, from, "", "", math.MaxInt, "\x00", "a", "ab", "b", "c", "\xff")
		mustScan(t, from, "", "", 3, "\x00", "a", "ab")
		for _, most := range []int{0, -1, math.MinInt} {
			mustScan(t, from, "", "", most)
			mustScan(t, from, "a", "b", most)
		}
		mustScan(t, from, "a", "b", 9, "a", "ab")
		mustScan(t, from, "a", "b", 1, "a")
		mustScan(t, from, "a\x00", "b\x00", 9, "ab", "b")
		mustScan(t, from, "ab", "ab", 9)
		mustScan(t, from, "c", "a", 9)
		mustScan(t, from, "b", "", 9, "b", "c", "\xff")
		mustScan(t, from, "\xff", "", 9, "\xff")
		mustScan(t, from, "\xff\x00", "", 9)
		mustScan(t, from, "", "\x00", 9)
		mustScan(t, from, "", "\x00\x00", 9, "\x00")
		// The ends of a range need not be valid keys.
		mustScan(t, from, tooLong, "b"+tooLong, 9, "ab", "b")
	}
	list, _ := s.Scan("a", "b", 2)
	list[0].Value, list[1].Key = "x", "y"
	mustHave(t, s, of("a", "1", "ab", "2", "b", "3", "\x00", "", "\xff", "5", "c", "6"))
	mustHave(t, v, of("a", "1", "ab", "2", "b", "3", "\x00", "", "\xff", "5", "c", "6"))
}

func TestRandomScans(t *testing.T) {
	r := rand.New(rand.NewSource(156))
	for _, keys := range []int{0, 1, 2, 3, 10, 300, 1023} {
		c := randomContents(r, keys)
		for _, key := range texts {
			if len(c) < roomOf(16384) && keys > 3 {
				c[key] = randomValue(r)
			}
		}
		s, v := both(t, 16384, c)
		for range 200 {
			lo, hi, most := randomText(r, r.Intn(3)), randomText(r, r.Intn(3)), r.Intn(2*keys+9)
			if r.Intn(3) == 0 {
				lo, hi, most = randomKey(r), randomKey(r), r.Intn(5)
			}
			want := c.scan(lo, hi, most)
			for _, from := range []reading{s, v} {
				if got, e := from.Scan(lo, hi, most); e != api.OK || !slices.Equal(got, want) {
					t.Fatalf("Scan(%q, %q, %d) = %q, %d, want %q", lo, hi, most, got, e, want)
				}
			}
		}
	}
}

func TestLen(t *testing.T) {
	d, s := begin(t, 100)
	v := mustView(t, s)
	for i, key := range []string{"a", "b", "a", "c"} {
		must(t, "Put", s.Put(key, "1"), api.OK)
		if want := []int{1, 2, 2, 3}[i]; s.Len() != want || v.Len() != 0 {
			t.Errorf("Len = %d, %d, want %d, 0", s.Len(), v.Len(), want)
		}
	}
	must(t, "Commit", s.Commit(), api.OK)
	v = mustView(t, s)
	must(t, "Delete", s.Delete("b"), api.OK)
	must(t, "Delete", s.Delete("b"), api.ErrNone)
	if s.Len() != 2 || v.Len() != 3 {
		t.Errorf("Len = %d, %d", s.Len(), v.Len())
	}
	// It remains after the end of the view, without power, and of a broken store.
	must(t, "Close", v.Close(), api.OK)
	must(t, "Fuse", d.Fuse(0), api.OK)
	must(t, "Sync", d.Sync(), api.ErrOff)
	if s.Len() != 2 || v.Len() != 3 {
		t.Errorf("Len = %d, %d without power", s.Len(), v.Len())
	}
	must(t, "Commit", s.Commit(), api.ErrOff)
	if s.Len() != 2 || v.Len() != 3 {
		t.Errorf("Len = %d, %d of a broken store", s.Len(), v.Len())
	}
}

// TestReadingWithoutPower has all calls that read as the first one without power.
func TestReadingWithoutPower(t *testing.T) {
	for name, call := range map[string]func(from reading) api.Errno{
		"Get":            func(from reading) api.Errno { _, e := from.Get("a"); return e },
		"Get of no key":  func(from reading) api.Errno { _, e := from.Get("x"); return e },
		"Get of nothing": func(from reading) api.Errno { _, e := from.Get(""); return e },
		"Scan":           func(from reading) api.Errno { _, e := from.Scan("", "", 0); return e },
	} {
		for _, byView := range []bool{false, true} {
			d, s := begin(t, 36)
			put(t, s, "a", "1")
			must(t, "Commit", s.Commit(), api.OK)
			v, closed := mustView(t, s), mustView(t, s)
			must(t, "Close", closed.Close(), api.OK)
			must(t, "Fuse", d.Fuse(0), api.OK)
			must(t, "Write", d.Write(0, ""), api.ErrOff)
			mustRefuse(t, closed, api.ErrEnded)
			first := reading(s)
			if byView {
				first = v
			}
			must(t, name, call(first), api.ErrOff)
			mustRefuseAll(t, s, api.ErrBroken)
			mustRefuse(t, v, api.ErrBroken)
			mustRefuse(t, closed, api.ErrEnded)
		}
	}
}
