package page_test

import (
	"math/rand"
	"testing"

	"acrospire/api"
	"acrospire/page"
)

func TestFormat(t *testing.T) {
	for _, pages := range []int{20, 35, 36, 16384} {
		d := mustNew(t, pages)
		mustRefuseOpen(t, d, api.ErrFormat)
		must(t, "Format", page.Format(d), api.OK)
		must(t, "Crash", d.Crash(nil), api.OK)
		mustHave(t, mustOpen(t, d), nil)
	}
}

func TestDiskWithoutStore(t *testing.T) {
	for _, text := range []string{"", "a", "L", "L\x00", "L\x01\x01a\x011", "\xff", "hello, world"} {
		d := mustNew(t, 20)
		must(t, "Write", d.Write(0, text), api.OK)
		mustRefuseOpen(t, d, api.ErrFormat)
		must(t, "Sync", d.Sync(), api.OK)
		mustRefuseOpen(t, d, api.ErrFormat)
		must(t, "Format", page.Format(d), api.OK)
		mustHave(t, mustOpen(t, d), nil)
	}
}

func TestFormatEmptiesTheStore(t *testing.T) {
	r := rand.New(rand.NewSource(152))
	for _, keys := range []int{1, 3, 40} {
		d, s := begin(t, 1000)
		become(t, r, s, randomContents(r, keys))
		must(t, "Commit", s.Commit(), api.OK)
		must(t, "Put", s.Put("a", "1"), api.OK)
		must(t, "Format", page.Format(d), api.OK)
		mustRefuseAll(t, s, api.ErrBroken)
		must(t, "Crash", d.Crash(nil), api.OK)
		s = mustOpen(t, d)
		mustHave(t, s, nil)
		must(t, "Rollback", s.Rollback(), api.OK)
		mustHave(t, s, nil)
	}
}

func TestOpen(t *testing.T) {
	d, s := begin(t, 100)
	put(t, s, "a", "1", "b", "2")
	must(t, "Commit", s.Commit(), api.OK)
	put(t, s, "a", "3", "c", "4")
	s = mustOpen(t, d)
	mustHave(t, s, of("a", "1", "b", "2"))
	// Both states are those of the disk.
	put(t, s, "d", "5")
	must(t, "Rollback", s.Rollback(), api.OK)
	mustHave(t, s, of("a", "1", "b", "2"))
	mustHave(t, mustView(t, s), of("a", "1", "b", "2"))
}

// TestOpenFindsAllContents has keys and values of all lengths, and as many as there is room for.
func TestOpenFindsAllContents(t *testing.T) {
	r := rand.New(rand.NewSource(153))
	for _, pages := range []int{20, 36, 100, 500, 4000, 16384} {
		for range 4 {
			d, s := begin(t, pages)
			c := contents{}
			for len(c) < roomOf(pages) {
				key, value := randomKey(r), randomValue(r)
				c[key] = value
				must(t, "Put", s.Put(key, value), api.OK)
			}
			must(t, "Commit", s.Commit(), api.OK)
			must(t, "Crash", d.Crash(nil), api.OK)
			mustHave(t, mustOpen(t, d), c)
			mustHave(t, mustOpen(t, d.Clone()), c)
		}
	}
}

// TestOpenAtEverySize opens a store each time that it has one key more.
func TestOpenAtEverySize(t *testing.T) {
	for _, ascending := range []bool{true, false} {
		d, s := begin(t, 16384)
		for number := range roomOf(16384) {
			if !ascending {
				number = 1022 - number
			}
			must(t, "Put", s.Put(numbered(number), numbered(-number)), api.OK)
			must(t, "Commit", s.Commit(), api.OK)
			s = mustOpen(t, d)
		}
		c := contents{}
		for number := range roomOf(16384) {
			c[numbered(number)] = numbered(-number)
		}
		mustHave(t, s, c)
	}
}

// numbered returns keys in the order of their numbers.
func numbered(number int) string {
	return string([]byte{byte(number >> 8), byte(number)})
}

func TestDiskThatIsOffIsNotOpened(t *testing.T) {
	d, s := begin(t, 36)
	put(t, s, "a", "1")
	must(t, "Commit", s.Commit(), api.OK)
	must(t, "Fuse", d.Fuse(0), api.OK)
	must(t, "Sync", d.Sync(), api.ErrOff)
	mustRefuseOpen(t, d, api.ErrOff)
	must(t, "Format", page.Format(d), api.ErrOff)
	mustRefuseOpen(t, d.Clone(), api.ErrOff)
	must(t, "Crash", d.Crash([]int{9}), api.OK)
	mustHave(t, mustOpen(t, d), of("a", "1"))
}

// TestOpenBreaksStores has all calls after which a store is broken, although the disk is on.
func TestOpenBreaksStores(t *testing.T) {
	for name, call := range map[string]func(d *page.Disk){
		"Open":   func(d *page.Disk) { mustOpen(t, d) },
		"Format": func(d *page.Disk) { must(t, "Format", page.Format(d), api.OK) },
		"Crash":  func(d *page.Disk) { must(t, "Crash", d.Crash(nil), api.OK) },
		"Open of a disk that is off": func(d *page.Disk) {
			must(t, "Fuse", d.Fuse(0), api.OK)
			must(t, "Sync", d.Sync(), api.ErrOff)
			mustRefuseOpen(t, d, api.ErrOff)
		},
		"Format that turns the disk off": func(d *page.Disk) {
			must(t, "Fuse", d.Fuse(0), api.OK)
			must(t, "Format", page.Format(d), api.ErrOff)
		},
	} {
		d, s := begin(t, 36)
		put(t, s, "a", "1")
		must(t, "Commit", s.Commit(), api.OK)
		v := mustView(t, s)
		put(t, s, "b", "2")
		call(d)
		mustRefuseAll(t, s, api.ErrBroken)
		mustRefuse(t, v, api.ErrBroken)
		if s.Len() != 2 || v.Len() != 1 {
			t.Errorf("%s: Len = %d, %d", name, s.Len(), v.Len())
		}
		must(t, "Close", v.Close(), api.OK)
		must(t, "Close", v.Close(), api.ErrEnded)
	}
}

func TestWhatDoesNotBreakStores(t *testing.T) {
	d, s := begin(t, 36)
	put(t, s, "a", "1")
	must(t, "Sync", d.Sync(), api.OK)
	must(t, "Fuse", d.Fuse(100), api.OK)
	c := d.Clone()
	mustOpen(t, c)
	must(t, "Format", page.Format(c), api.OK)
	must(t, "Crash", c.Crash(nil), api.OK)
	must(t, "Put", s.Put("", "1"), api.ErrArg)
	mustHave(t, s, of("a", "1"))
	must(t, "Commit", s.Commit(), api.OK)
	mustHave(t, mustOpen(t, d), of("a", "1"))
	mustHave(t, mustOpen(t, c), nil)
}

// TestNewStoreOnOldDisk has an old store and its views beside a new one.
func TestNewStoreOnOldDisk(t *testing.T) {
	d, old := begin(t, 100)
	put(t, old, "a", "1")
	must(t, "Commit", old.Commit(), api.OK)
	var views []*page.View
	for range 4 {
		views = append(views, mustView(t, old))
	}
	s := mustOpen(t, d)
	// The views of the old store do not count for the new one.
	for range 4 {
		mustHave(t, mustView(t, s), of("a", "1"))
	}
	put(t, s, "b", "2")
	mustRefuseAll(t, old, api.ErrBroken)
	for _, v := range views {
		mustRefuse(t, v, api.ErrBroken)
		must(t, "Close", v.Close(), api.OK)
	}
	mustHave(t, s, of("a", "1", "b", "2"))
	if _, e := s.View(); e != api.ErrFull {
		t.Errorf("View: %d", e)
	}
}

func TestUnusableStores(t *testing.T) {
	for name, s := range map[string]*page.Store{"nil": nil, "zero": {}} {
		mustRefuseAll(t, s, api.ErrUnusable)
		if s.Len() != 0 {
			t.Errorf("%s: Len = %d", name, s.Len())
		}
	}
}
