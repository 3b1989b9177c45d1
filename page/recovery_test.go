package page_test

import (
	"math/rand"
	"slices"
	"testing"

	"acrospire/api"
	"acrospire/page"
)

// keeps are what crashes keep: nothing, everything, and some of it.
func keeps(r *rand.Rand) [][]int {
	list := [][]int{nil, {9}, {0, 1}, {1, 0}, {0, 0, 1}, {1, 1, 0}, {-1, 0, 0, 0, 5}}
	for range 5 {
		list = append(list, randomKeep(r))
	}
	return list
}

// mustSettle checks that a disk on which a state was found has this state from then on.
func mustSettle(t *testing.T, d *page.Disk, found contents) {
	t.Helper()
	for _, keep := range [][]int{nil, {9}, {0, 1}} {
		c := d.Clone()
		mustHave(t, mustOpen(t, c), found)
		must(t, "Crash", c.Crash(keep), api.OK)
		mustHave(t, mustOpen(t, c), found)
	}
}

// mustRecover lets a disk crash that was turned off, and checks that one of the states is
// found, with which the store goes on.
func mustRecover(t *testing.T, r *rand.Rand, d *page.Disk, states ...contents) {
	t.Helper()
	for _, keep := range keeps(r) {
		c := d.Clone()
		mustRefuseOpen(t, c, api.ErrOff)
		must(t, "Crash", c.Crash(keep), api.OK)
		s := mustOpen(t, c)
		found := read(t, s)
		if !slices.ContainsFunc(states, found.equal) {
			t.Fatalf("%d keys are found after a crash with %v: %.300q", len(found), keep, found)
		}
		mustSettle(t, c, found)
		next := randomContents(r, roomOf(d.Pages()))
		s = mustOpen(t, c)
		become(t, r, s, next)
		must(t, "Commit", s.Commit(), api.OK)
		must(t, "Crash", c.Crash(keep), api.OK)
		mustHave(t, mustOpen(t, c), next)
	}
}

// committed returns a disk with a store that has the contents.
func committed(t *testing.T, r *rand.Rand, pages int, c contents) (*page.Disk, *page.Store) {
	t.Helper()
	d, s := begin(t, pages)
	become(t, r, s, c)
	must(t, "Commit", s.Commit(), api.OK)
	return d, s
}

// TestCommitWithoutPower turns the disk off at every possible moment of a Commit.
func TestCommitWithoutPower(t *testing.T) {
	r := rand.New(rand.NewSource(159))
	for _, pages := range []int{20, 36, 100, 300} {
		for _, share := range []int{0, 1, 2} {
			room := roomOf(pages)
			old, next := randomContents(r, room), randomContents(r, room*share/2)
			for calls := 0; ; calls++ {
				d, s := committed(t, r, pages, old)
				v := mustView(t, s)
				become(t, r, s, next)
				must(t, "Fuse", d.Fuse(calls), api.OK)
				if s.Commit() == api.OK {
					mustHave(t, s, next)
					must(t, "Fuse", d.Fuse(0), api.OK)
					must(t, "Sync", d.Sync(), api.ErrOff)
					mustRecover(t, r, d, next)
					break
				}
				if !d.Off() || s.Len() != len(next) {
					t.Fatalf("Off = %t, Len = %d", d.Off(), s.Len())
				}
				mustRefuseAll(t, s, api.ErrBroken)
				mustRefuse(t, v, api.ErrBroken)
				mustRecover(t, r, d, old, next)
			}
		}
	}
}

// TestFormatWithoutPower turns the disk off at every possible moment of a Format.
func TestFormatWithoutPower(t *testing.T) {
	r := rand.New(rand.NewSource(160))
	for _, pages := range []int{20, 100} {
		old := randomContents(r, roomOf(pages))
		for calls := 0; ; calls++ {
			d, _ := committed(t, r, pages, old)
			must(t, "Fuse", d.Fuse(calls), api.OK)
			e := page.Format(d)
			if e == api.OK {
				must(t, "Crash", d.Crash(nil), api.OK)
				mustHave(t, mustOpen(t, d), nil)
				break
			}
			must(t, "Format", e, api.ErrOff)
			mustRecover(t, r, d, old, nil)
		}
	}
}

// TestFirstFormatWithoutPower finds the empty store after that, or none.
func TestFirstFormatWithoutPower(t *testing.T) {
	for calls := 0; ; calls++ {
		d := mustNew(t, 20)
		must(t, "Fuse", d.Fuse(calls), api.OK)
		e := page.Format(d)
		if e == api.OK {
			break
		}
		must(t, "Format", e, api.ErrOff)
		for _, keep := range [][]int{nil, {1}, {0, 1}, {1, 0}} {
			c := d.Clone()
			must(t, "Crash", c.Crash(keep), api.OK)
			s, e := page.Open(c)
			if e == api.OK {
				mustHave(t, s, nil)
				mustSettle(t, c, nil)
			} else {
				must(t, "Open", e, api.ErrFormat)
			}
			must(t, "Format", page.Format(c), api.OK)
			mustSettle(t, c, nil)
		}
	}
}

// TestManyFailures has a Commit that fails, and one that fails after the recovery from it.
func TestManyFailures(t *testing.T) {
	r := rand.New(rand.NewSource(161))
	for range 300 {
		old := randomContents(r, r.Intn(6))
		d, s := committed(t, r, 100, old)
		for range 6 {
			next := randomContents(r, r.Intn(7))
			become(t, r, s, next)
			must(t, "Fuse", d.Fuse(r.Intn(12)), api.OK)
			if s.Commit() == api.OK {
				old = next
				must(t, "Fuse", d.Fuse(0), api.OK)
				must(t, "Sync", d.Sync(), api.ErrOff)
			}
			mustRefuseOpen(t, d, api.ErrOff)
			must(t, "Crash", d.Crash(randomKeep(r)), api.OK)
			s = mustOpen(t, d)
			found := read(t, s)
			if !found.equal(old) && !found.equal(next) {
				t.Fatalf("%d keys are found: %q", len(found), found)
			}
			old = found
			mustSettle(t, d.Clone(), old)
		}
	}
}

// TestUncommittedChanges are lost, whatever is kept.
func TestUncommittedChanges(t *testing.T) {
	r := rand.New(rand.NewSource(162))
	for _, keep := range keeps(r) {
		old := randomContents(r, 20)
		d, s := committed(t, r, 500, old)
		become(t, r, s, randomContents(r, 30))
		must(t, "Crash", d.Crash(keep), api.OK)
		mustHave(t, mustOpen(t, d), old)
	}
	d, s := begin(t, 36)
	put(t, s, "a", "1")
	must(t, "Commit", s.Commit(), api.OK)
	put(t, s, "a", "2")
	must(t, "Crash", d.Crash(nil), api.OK)
	mustHave(t, mustOpen(t, d), of("a", "1"))
}
