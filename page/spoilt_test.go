package page_test

import (
	"math/rand"
	"slices"
	"strings"
	"testing"

	"acrospire/api"
	"acrospire/page"
)

// The tests of this file write on the pages of stores. Nothing is promised of these then, but
// that all calls return.

// use makes all kinds of calls for a disk, whatever they return.
func use(r *rand.Rand, d *page.Disk) {
	s, e := page.Open(d)
	if e != api.OK {
		return
	}
	v, _ := s.View()
	for range 50 {
		s.Put(randomKey(r), randomValue(r))
		s.Delete(randomKey(r))
		s.Get(randomKey(r))
		s.Scan(randomKey(r), randomKey(r), r.Intn(40))
		v.Get(randomKey(r))
	}
	s.Commit()
	v.Scan("", "", 9)
	v.Close()
	s.Rollback()
	page.Open(d)
}

// TestSpoiltDisks has stores of all sizes, of which a few pages were changed.
func TestSpoiltDisks(t *testing.T) {
	r := rand.New(rand.NewSource(154))
	for _, keys := range []int{0, 1, 7, 200, 1000} {
		d, s := begin(t, 16384)
		become(t, r, s, randomContents(r, keys))
		must(t, "Commit", s.Commit(), api.OK)
		pages := len(written(d))
		for range 100 {
			c := d.Clone()
			for range 1 + r.Intn(5) {
				spoil(t, r, c, pages)
			}
			use(r, c)
		}
	}
}

// spoil changes one of the pages that were written, most often the first one.
func spoil(t *testing.T, r *rand.Rand, d *page.Disk, written int) {
	t.Helper()
	number := r.Intn(written) * r.Intn(2)
	text, e := d.Read(number)
	must(t, "Read", e, api.OK)
	other, e := d.Read(r.Intn(written))
	must(t, "Read", e, api.OK)
	at := r.Intn(256)
	switch r.Intn(4) {
	case 0:
		text = other
	case 1:
		// The other page stands behind the beginning of this one.
		begin := r.Intn(16)
		text = text[:begin] + other[:256-begin]
	case 2:
		text = text[:at] + other[at:]
	default:
		text = text[:at] + string([]byte{byte(r.Intn(256))}) + text[at+1:]
	}
	must(t, "Write", d.Write(number, text), api.OK)
}

// TestCopiedPages has a store in which each page was copied to the place of each other one,
// so that some branches lead to themselves.
func TestCopiedPages(t *testing.T) {
	r := rand.New(rand.NewSource(167))
	d, s := begin(t, 4000)
	become(t, r, s, randomContents(r, 200))
	must(t, "Commit", s.Commit(), api.OK)
	pages := written(d)
	for _, copied := range pages {
		for number, text := range pages {
			must(t, "Write", d.Write(number, copied), api.OK)
			if s, e := page.Open(d); e == api.OK {
				read(t, s)
			}
			must(t, "Write", d.Write(number, text), api.OK)
		}
		must(t, "Sync", d.Sync(), api.OK)
	}
}

// written returns the pages of a new disk on which a store wrote, which are the first ones.
func written(d *page.Disk) []string {
	var pages []string
	for number := range d.Pages() {
		text, _ := d.Read(number)
		if text == strings.Repeat("\x00", 256) {
			break
		}
		pages = append(pages, text)
	}
	return pages
}

// TestChangedBytes has a small store of which each byte was changed.
func TestChangedBytes(t *testing.T) {
	r := rand.New(rand.NewSource(169))
	d, s := begin(t, 100)
	become(t, r, s, randomContents(r, 6))
	must(t, "Commit", s.Commit(), api.OK)
	for number, text := range written(d) {
		for at := range text {
			for _, value := range []byte{0, 1, 2, 'B', 'L', 255, text[at] ^ 1} {
				c := d.Clone()
				must(t, "Write", c.Write(number, text[:at]+string([]byte{value})+text[at+1:]), api.OK)
				use(r, c)
			}
		}
	}
}

// TestShuffledPages has stores of which the keys are not in order any more, unless Open
// refuses them.
func TestShuffledPages(t *testing.T) {
	r := rand.New(rand.NewSource(168))
	for range 200 {
		d, s := begin(t, 100)
		become(t, r, s, randomContents(r, 6))
		must(t, "Commit", s.Commit(), api.OK)
		pages := written(d)
		for i, number := range r.Perm(len(pages) - 1) {
			must(t, "Write", d.Write(i+1, pages[number+1]), api.OK)
		}
		if s, e := page.Open(d); e == api.OK {
			read(t, s)
			use(r, d)
		}
	}
}

// TestPagesOfLargerDisk puts more keys on a disk than there is room for.
func TestPagesOfLargerDisk(t *testing.T) {
	large, s := begin(t, 400)
	for _, key := range slices.Sorted(slices.Values(texts)) {
		put(t, s, key, "1")
	}
	must(t, "Commit", s.Commit(), api.OK)
	small := mustNew(t, 20)
	for number := range 20 {
		text, e := large.Read(number)
		must(t, "Read", e, api.OK)
		must(t, "Write", small.Write(number, text), api.OK)
	}
	if s, e := page.Open(small); e == api.OK {
		for _, key := range texts {
			s.Put(key, "2")
		}
		s.Commit()
	}
}

// TestDisksWithNoise has pages that no store wrote, apart from how the first one begins.
func TestDisksWithNoise(t *testing.T) {
	r := rand.New(rand.NewSource(155))
	d, _ := begin(t, 20)
	first, _ := d.Read(0)
	for range 3000 {
		d := mustNew(t, 20)
		for number := range 20 {
			text := randomText(r, 256)
			if number == 0 {
				text = first[:r.Intn(16)] + text
			}
			must(t, "Write", d.Write(number, text[:256]), api.OK)
		}
		use(r, d)
		must(t, "Format", page.Format(d), api.OK)
		must(t, "Crash", d.Crash(nil), api.OK)
		mustHave(t, mustOpen(t, d), nil)
	}
}
