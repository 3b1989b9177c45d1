package page_test

import (
	"maps"
	"math/rand"
	"slices"
	"strings"
	"testing"

	"acrospire/api"
	"acrospire/page"
)

func TestPut(t *testing.T) {
	_, s := begin(t, 500)
	c := contents{}
	for _, key := range texts {
		for _, value := range []string{"1", "", "\x00", strings.Repeat("\xff", 64), key} {
			must(t, "Put", s.Put(key, value), api.OK)
			c[key] = value
			mustHave(t, s, c)
		}
	}
	for _, key := range []string{"", tooLong, strings.Repeat("x", 1<<20)} {
		must(t, "Put of a wrong key", s.Put(key, "1"), api.ErrArg)
	}
	for _, value := range []string{strings.Repeat("x", 65), strings.Repeat("x", 1<<20)} {
		must(t, "Put of a wrong value", s.Put("a", value), api.ErrArg)
		must(t, "Put of a wrong value", s.Put("new", value), api.ErrArg)
	}
	mustHave(t, s, c)
}

// TestRoom fills disks of all sizes that differ.
func TestRoom(t *testing.T) {
	for pages, room := range map[int]int{20: 1, 35: 1, 36: 2, 51: 2, 52: 3, 67: 3, 1000: 62, 16383: 1023, 16384: 1023} {
		d, s := begin(t, pages)
		c := contents{}
		for number := range room {
			key := strings.Repeat(string([]byte{byte(number), byte(number >> 8)}), 16)
			must(t, "Put", s.Put(key, "1"), api.OK)
			c[key] = "1"
		}
		for range 2 {
			must(t, "Put of one key more", s.Put("one key more", "1"), api.ErrFull)
			must(t, "Put of a wrong key", s.Put("", "1"), api.ErrArg)
			must(t, "Put of a wrong value", s.Put("one key more", tooLong+tooLong), api.ErrArg)
			for key := range c {
				must(t, "Put of a known key", s.Put(key, "2"), api.OK)
				c[key] = "2"
			}
			mustHave(t, s, c)
			must(t, "Commit", s.Commit(), api.OK)
			s = mustOpen(t, d)
		}
		first := slices.Min(slices.Collect(maps.Keys(c)))
		must(t, "Delete", s.Delete(first), api.OK)
		must(t, "Put of one key more", s.Put("one key more", "1"), api.OK)
		must(t, "Put", s.Put(first, "1"), api.ErrFull)
		// The room does not depend on what was committed.
		must(t, "Rollback", s.Rollback(), api.OK)
		mustHave(t, s, c)
	}
}

func TestDelete(t *testing.T) {
	_, s := begin(t, 500)
	must(t, "Delete in an empty store", s.Delete("a"), api.ErrNone)
	c := contents{}
	for _, key := range texts {
		put(t, s, key, "1")
		c[key] = "1"
	}
	for _, key := range []string{"", tooLong} {
		must(t, "Delete of a wrong key", s.Delete(key), api.ErrArg)
	}
	for _, key := range []string{"aaa", "c", "b\x00"} {
		must(t, "Delete of no key", s.Delete(key), api.ErrNone)
	}
	for _, key := range texts {
		must(t, "Delete", s.Delete(key), api.OK)
		must(t, "Delete once more", s.Delete(key), api.ErrNone)
		delete(c, key)
		mustHave(t, s, c)
	}
	put(t, s, "a", "2")
	mustHave(t, s, of("a", "2"))
}

func TestCommitAndRollback(t *testing.T) {
	d, s := begin(t, 200)
	must(t, "Rollback of nothing", s.Rollback(), api.OK)
	must(t, "Commit of nothing", s.Commit(), api.OK)
	put(t, s, "a", "1", "b", "2")
	must(t, "Rollback", s.Rollback(), api.OK)
	mustHave(t, s, nil)
	put(t, s, "a", "1", "b", "2")
	must(t, "Commit", s.Commit(), api.OK)
	mustHave(t, s, of("a", "1", "b", "2"))
	put(t, s, "a", "3", "c", "4")
	must(t, "Delete", s.Delete("b"), api.OK)
	mustHave(t, s, of("a", "3", "c", "4"))
	must(t, "Rollback", s.Rollback(), api.OK)
	mustHave(t, s, of("a", "1", "b", "2"))
	must(t, "Rollback", s.Rollback(), api.OK)
	must(t, "Delete", s.Delete("a"), api.OK)
	must(t, "Commit", s.Commit(), api.OK)
	must(t, "Crash", d.Crash(nil), api.OK)
	s = mustOpen(t, d)
	mustHave(t, s, of("b", "2"))
	must(t, "Delete", s.Delete("b"), api.OK)
	must(t, "Commit", s.Commit(), api.OK)
	must(t, "Crash", d.Crash(nil), api.OK)
	mustHave(t, mustOpen(t, d), nil)
}

// TestWritingWithoutPower has all calls for a store as the first one without power.
func TestWritingWithoutPower(t *testing.T) {
	for name, call := range map[string]func(s *page.Store) api.Errno{
		"Put":            func(s *page.Store) api.Errno { return s.Put("a", "2") },
		"Put of nothing": func(s *page.Store) api.Errno { return s.Put("", "2") },
		"Put of a third": func(s *page.Store) api.Errno { return s.Put("c", "2") },
		"Delete":         func(s *page.Store) api.Errno { return s.Delete("a") },
		"Delete of none": func(s *page.Store) api.Errno { return s.Delete("x") },
		"Commit":         func(s *page.Store) api.Errno { return s.Commit() },
		"Rollback":       func(s *page.Store) api.Errno { return s.Rollback() },
		"View":           func(s *page.Store) api.Errno { _, e := s.View(); return e },
	} {
		d, s := begin(t, 36)
		put(t, s, "a", "1")
		must(t, "Commit", s.Commit(), api.OK)
		v := mustView(t, s)
		put(t, s, "b", "2")
		must(t, "Fuse", d.Fuse(0), api.OK)
		must(t, "Sync", d.Sync(), api.ErrOff)
		must(t, name, call(s), api.ErrOff)
		mustRefuseAll(t, s, api.ErrBroken)
		mustRefuse(t, v, api.ErrBroken)
		if s.Len() != 2 || v.Len() != 1 {
			t.Errorf("%s: Len = %d, %d", name, s.Len(), v.Len())
		}
		must(t, "Crash", d.Crash([]int{9}), api.OK)
		mustRefuseAll(t, s, api.ErrBroken)
		mustHave(t, mustOpen(t, d), of("a", "1"))
	}
}

// TestPowerBetweenCalls loses the power, and gets it back, while the store is not asked.
func TestPowerBetweenCalls(t *testing.T) {
	d, s := begin(t, 36)
	v := mustView(t, s)
	must(t, "Fuse", d.Fuse(0), api.OK)
	must(t, "Sync", d.Sync(), api.ErrOff)
	must(t, "Crash", d.Crash(nil), api.OK)
	mustRefuseAll(t, s, api.ErrBroken)
	mustRefuse(t, v, api.ErrBroken)
}

// TestRandomWrites has stores in which keys come and go in all orders, so that their trees
// have all shapes.
func TestRandomWrites(t *testing.T) {
	r := rand.New(rand.NewSource(157))
	for round := range 60 {
		pages := []int{20, 52, 200, 2000, 16384}[round%5]
		d, s := begin(t, pages)
		committed, current := contents{}, contents{}
		for range 10 {
			change(t, r, s, current, roomOf(pages))
			mustHave(t, s, current)
			switch r.Intn(4) {
			case 0:
				must(t, "Rollback", s.Rollback(), api.OK)
				current = maps.Clone(committed)
			case 1:
				must(t, "Commit", s.Commit(), api.OK)
				must(t, "Crash", d.Crash(nil), api.OK)
				s = mustOpen(t, d)
				committed = maps.Clone(current)
			case 2:
				must(t, "Commit", s.Commit(), api.OK)
				committed = maps.Clone(current)
			}
			mustHave(t, s, current)
		}
	}
}

// change puts many keys, deletes many, or both, in one of three orders.
func change(t *testing.T, r *rand.Rand, s *page.Store, c contents, room int) {
	t.Helper()
	var added []string
	for len(c)+len(added) < room && r.Intn(room+5) > 1 {
		added = append(added, randomKey(r))
	}
	removed := slices.Sorted(maps.Keys(c))[:r.Intn(len(c)+1)]
	order := r.Intn(3)
	for _, list := range [][]string{added, removed} {
		slices.Sort(list)
		if order == 1 {
			slices.Reverse(list)
		}
		if order == 2 {
			r.Shuffle(len(list), func(i, j int) { list[i], list[j] = list[j], list[i] })
		}
	}
	for _, key := range added {
		c[key] = randomValue(r)
		must(t, "Put", s.Put(key, c[key]), api.OK)
	}
	for _, key := range removed {
		must(t, "Delete", s.Delete(key), api.OK)
		delete(c, key)
	}
}
