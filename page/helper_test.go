package page_test

import (
	"bytes"
	"maps"
	"math/rand"
	"slices"
	"strings"
	"testing"

	"acrospire/api"
	"acrospire/page"
)

func must(t *testing.T, call string, e, want api.Errno) {
	t.Helper()
	if e != want {
		t.Fatalf("%s: %d, want %d", call, e, want)
	}
}

func mustNew(t *testing.T, pages int) *page.Disk {
	t.Helper()
	d, e := page.NewDisk(pages)
	if d == nil || e != api.OK {
		t.Fatalf("NewDisk(%d) = %p, %d", pages, d, e)
	}
	return d
}

func mustOpen(t *testing.T, d *page.Disk) *page.Store {
	t.Helper()
	s, e := page.Open(d)
	if s == nil || e != api.OK {
		t.Fatalf("Open = %p, %d", s, e)
	}
	return s
}

func mustRefuseOpen(t *testing.T, d *page.Disk, want api.Errno) {
	t.Helper()
	if s, e := page.Open(d); s != nil || e != want {
		t.Fatalf("Open = %p, %d, want %d", s, e, want)
	}
}

// begin returns a store on a new disk.
func begin(t *testing.T, pages int) (*page.Disk, *page.Store) {
	t.Helper()
	d := mustNew(t, pages)
	must(t, "Format", page.Format(d), api.OK)
	return d, mustOpen(t, d)
}

func mustView(t *testing.T, s *page.Store) *page.View {
	t.Helper()
	v, e := s.View()
	if v == nil || e != api.OK {
		t.Fatalf("View = %p, %d", v, e)
	}
	return v
}

// put makes a change of a store, which consists of keys each followed by its value.
func put(t *testing.T, s *page.Store, texts ...string) {
	t.Helper()
	for pair := range slices.Chunk(texts, 2) {
		must(t, "Put "+pair[0], s.Put(pair[0], pair[1]), api.OK)
	}
}

// Contents are the keys of a state, with their values.
type contents map[string]string

func of(texts ...string) contents {
	c := contents{}
	for pair := range slices.Chunk(texts, 2) {
		c[pair[0]] = pair[1]
	}
	return c
}

func (c contents) equal(other contents) bool {
	return maps.Equal(c, other)
}

// scan is Scan by a plain reading: all keys that are wanted, then the first of them.
func (c contents) scan(lo, hi string, most int) []api.Pair {
	var pairs []api.Pair
	for key, value := range c {
		afterLo := bytes.Compare([]byte(key), []byte(lo)) >= 0
		beforeHi := hi == "" || bytes.Compare([]byte(key), []byte(hi)) < 0
		if afterLo && beforeHi {
			pairs = append(pairs, api.Pair{Key: key, Value: value})
		}
	}
	slices.SortFunc(pairs, func(a, b api.Pair) int { return bytes.Compare([]byte(a.Key), []byte(b.Key)) })
	return pairs[:min(max(most, 0), len(pairs))]
}

// A reading is a store or a view.
type reading interface {
	Get(key string) (string, api.Errno)
	Scan(lo, hi string, most int) ([]api.Pair, api.Errno)
	Len() int
}

// read returns all that can be read, and fails if the ways of reading it do not agree.
func read(t *testing.T, from reading) contents {
	t.Helper()
	pairs, e := from.Scan("", "", 1<<40)
	must(t, "Scan", e, api.OK)
	c := contents{}
	for _, p := range pairs {
		c[p.Key] = p.Value
	}
	if from.Len() != len(c) || !slices.Equal(pairs, c.scan("", "", len(c))) {
		t.Fatalf("Len = %d, but Scan = %q", from.Len(), pairs)
	}
	for key, value := range c {
		if got, e := from.Get(key); got != value || e != api.OK {
			t.Fatalf("Get(%q) = %q, %d, want %q", key, got, e, value)
		}
	}
	for _, key := range texts {
		if _, has := c[key]; !has {
			mustLack(t, from, key, api.ErrNone)
		}
	}
	return c
}

func mustHave(t *testing.T, from reading, want contents) {
	t.Helper()
	if got := read(t, from); !got.equal(want) {
		t.Fatalf("%d keys, want %d: %.300q, want %.300q", len(got), len(want), got, want)
	}
}

// mustLack checks an error of Get.
func mustLack(t *testing.T, from reading, key string, want api.Errno) {
	t.Helper()
	if got, e := from.Get(key); got != "" || e != want {
		t.Fatalf("Get(%q) = %q, %d, want %d", key, got, e, want)
	}
}

// mustRefuse checks that a store or a view returns an error, for all arguments.
func mustRefuse(t *testing.T, from reading, want api.Errno) {
	t.Helper()
	for _, key := range []string{"a", "no such key", "", tooLong} {
		mustLack(t, from, key, want)
		if pairs, e := from.Scan(key, "", 9); len(pairs) != 0 || e != want {
			t.Fatalf("Scan(%q) = %v, %d, want %d", key, pairs, e, want)
		}
	}
}

// mustRefuseAll checks that a store returns an error, for all calls and arguments.
func mustRefuseAll(t *testing.T, s *page.Store, want api.Errno) {
	t.Helper()
	mustRefuse(t, s, want)
	for _, key := range []string{"a", "no such key", "", tooLong} {
		must(t, "Put", s.Put(key, "1"), want)
		must(t, "Delete", s.Delete(key), want)
	}
	must(t, "Put of a long value", s.Put("a", strings.Repeat("x", 65)), want)
	must(t, "Commit", s.Commit(), want)
	must(t, "Rollback", s.Rollback(), want)
	if v, e := s.View(); v != nil || e != want {
		t.Fatalf("View = %p, %d, want %d", v, e, want)
	}
}

// texts are keys that are hard to tell apart, or as short or as long as they can be.
var texts = []string{
	"a", "b", "ab", "aa", "a\x00", "a\x00\x00", "a\xff", "\x00", "\x00\x00", "\x01", "\x7f", "\x80", "\xff", "\xff\xff", "é", "世", "A",
	strings.Repeat("a", 31), strings.Repeat("a", 32), strings.Repeat("\xff", 32), strings.Repeat("\x00", 32), strings.Repeat("a", 31) + "b",
}

var tooLong = strings.Repeat("a", 33)

func randomText(r *rand.Rand, length int) string {
	text := make([]byte, length)
	for i := range text {
		text[i] = byte(r.Intn(256))
	}
	return string(text)
}

func randomKey(r *rand.Rand) string {
	if r.Intn(2) == 0 {
		return texts[r.Intn(len(texts))]
	}
	return randomText(r, 1+r.Intn(32))
}

func randomValue(r *rand.Rand) string {
	return randomText(r, r.Intn(3)*r.Intn(33))
}

// randomKeep returns what a crash keeps: often nothing or everything.
func randomKeep(r *rand.Rand) []int {
	keep := make([]int, r.Intn(6))
	for i := range keep {
		keep[i] = r.Intn(7) - 2
	}
	if r.Intn(4) == 0 {
		return []int{1 << 40}
	}
	return keep
}

// randomContents returns so many keys with values that are as long as they can be, so that
// they need as many pages as they can.
func randomContents(r *rand.Rand, keys int) contents {
	c := contents{}
	for len(c) < keys {
		c[randomText(r, 32)] = randomText(r, 64)
	}
	return c
}

// become gives a store exactly these contents, in an order that r chooses.
func become(t *testing.T, r *rand.Rand, s *page.Store, c contents) {
	t.Helper()
	for key := range read(t, s) {
		if _, wanted := c[key]; !wanted {
			must(t, "Delete", s.Delete(key), api.OK)
		}
	}
	keys := slices.Sorted(maps.Keys(c))
	r.Shuffle(len(keys), func(i, j int) { keys[i], keys[j] = keys[j], keys[i] })
	for _, key := range keys {
		must(t, "Put", s.Put(key, c[key]), api.OK)
	}
}

func roomOf(pages int) int {
	return (pages - 4) / 16
}
