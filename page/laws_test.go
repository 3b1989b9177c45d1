package page_test

import (
	"maps"
	"math/rand"
	"slices"
	"testing"

	"acrospire/api"
	"acrospire/page"
)

// A world is a disk with what the chapter says of it, whatever calls are made.
type world struct {
	t     *testing.T
	r     *rand.Rand
	disk  *page.Disk
	store *page.Store // nil before the first successful Open

	broken             bool
	committed, current contents
	views              []snapshot

	possible []contents // that the next Open may find
	lacking  bool       // whether the next Open may find no store
}

type snapshot struct {
	view *page.View
	has  contents
}

func newWorld(t *testing.T, r *rand.Rand, pages int) *world {
	return &world{t: t, r: r, disk: mustNew(t, pages), lacking: true}
}

// says checks the error of a call of the store. Of the errors that do not come from the power,
// want is the one that it should return.
func (w *world) says(call string, wasOff bool, e, want api.Errno) {
	w.t.Helper()
	switch {
	case w.broken:
		want = api.ErrBroken
	case wasOff:
		want = api.ErrOff
	case want == api.OK && w.disk.Off():
		want = api.ErrOff
	}
	must(w.t, call, e, want)
	w.broken = w.broken || e == api.ErrOff
}

func (w *world) put() {
	key, value, off := randomKey(w.r), randomValue(w.r), w.disk.Off()
	want := api.OK
	if _, has := w.current[key]; !has && len(w.current) == roomOf(w.disk.Pages()) {
		want = api.ErrFull
	}
	e := w.store.Put(key, value)
	w.says("Put", off, e, want)
	if e == api.OK {
		w.current[key] = value
	}
}

// someKey returns a key that the current state has, if it has one.
func (w *world) someKey() string {
	keys := slices.Sorted(maps.Keys(w.current))
	if len(keys) == 0 {
		return "a"
	}
	return keys[w.r.Intn(len(keys))]
}

func (w *world) remove() {
	key, off := w.someKey(), w.disk.Off()
	want := api.OK
	if _, has := w.current[key]; !has {
		want = api.ErrNone
	}
	e := w.store.Delete(key)
	w.says("Delete", off, e, want)
	if e == api.OK {
		delete(w.current, key)
	}
}

func (w *world) commit() {
	off := w.disk.Off()
	e := w.store.Commit()
	w.says("Commit", off, e, api.OK)
	switch e {
	case api.OK:
		w.committed = maps.Clone(w.current)
		w.possible = []contents{w.committed}
	case api.ErrOff:
		w.possible = append(w.possible, maps.Clone(w.current))
	}
}

func (w *world) rollback() {
	off := w.disk.Off()
	e := w.store.Rollback()
	w.says("Rollback", off, e, api.OK)
	if e == api.OK {
		w.current = maps.Clone(w.committed)
	}
}

func (w *world) view() {
	off, want := w.disk.Off(), api.OK
	if len(w.views) == 4 {
		want = api.ErrFull
	}
	v, e := w.store.View()
	w.says("View", off, e, want)
	if e == api.OK {
		w.views = append(w.views, snapshot{v, w.committed})
	}
}

func (w *world) close() {
	if len(w.views) == 0 {
		return
	}
	i := w.r.Intn(len(w.views))
	v := w.views[i].view
	must(w.t, "Close", v.Close(), api.OK)
	mustRefuse(w.t, v, api.ErrEnded)
	w.views = slices.Delete(w.views, i, i+1)
}

func (w *world) format() {
	e := page.Format(w.disk)
	w.broken = true
	if w.disk.Off() {
		must(w.t, "Format", e, api.ErrOff)
		w.possible = append(w.possible, contents{})
		return
	}
	must(w.t, "Format", e, api.OK)
	w.possible, w.lacking = []contents{{}}, false
}

// open opens the store, and settles what it has.
func (w *world) open() {
	s, e := page.Open(w.disk)
	w.broken = true
	if w.disk.Off() {
		must(w.t, "Open", e, api.ErrOff)
		return
	}
	if e == api.ErrFormat && w.lacking {
		return
	}
	must(w.t, "Open", e, api.OK)
	found := read(w.t, s)
	if !slices.ContainsFunc(w.possible, found.equal) {
		w.t.Fatalf("Open finds %d keys: %.300q", len(found), found)
	}
	w.store, w.broken, w.views = s, false, nil
	w.committed, w.current = found, maps.Clone(found)
	w.possible, w.lacking = []contents{found}, false
}

func (w *world) crash(keep []int) {
	must(w.t, "Crash", w.disk.Crash(keep), api.OK)
	w.broken = true
}

// look checks all that can be read of the store and its views.
func (w *world) look() {
	w.t.Helper()
	if w.store.Len() != len(w.current) {
		w.t.Fatalf("Len = %d, want %d", w.store.Len(), len(w.current))
	}
	for _, v := range w.views {
		if v.view.Len() != len(v.has) {
			w.t.Fatalf("Len = %d of a view, want %d", v.view.Len(), len(v.has))
		}
	}
	if !w.broken && w.disk.Off() {
		key := randomKey(w.r)
		mustLack(w.t, w.store, key, api.ErrOff)
		w.broken = true
	}
	if w.broken {
		mustRefuseAll(w.t, w.store, api.ErrBroken)
		for _, v := range w.views {
			mustRefuse(w.t, v.view, api.ErrBroken)
		}
		return
	}
	mustHave(w.t, w.store, w.current)
	for _, v := range w.views {
		mustHave(w.t, v.view, v.has)
	}
}

// branchOff does with clones of the disk what could happen to it as well.
func (w *world) branchOff() {
	for _, keep := range [][]int{nil, {9}, randomKeep(w.r), randomKeep(w.r)} {
		c := *w
		c.disk = w.disk.Clone()
		c.crash(keep)
		c.open()
		c.crash(randomKeep(w.r))
		c.open()
	}
}

func (w *world) step() {
	if w.store == nil {
		w.format()
		w.open()
		if w.disk.Off() || w.store == nil {
			w.crash(randomKeep(w.r))
			w.open()
		}
		return
	}
	switch n := w.r.Intn(100); {
	case n < 40:
		w.put()
	case n < 60:
		w.remove()
	case n < 75:
		w.commit()
	case n < 78:
		w.rollback()
	case n < 83:
		w.view()
	case n < 87:
		w.close()
	case n < 91:
		w.disk.Fuse(w.r.Intn(12) - 1)
	case n < 92:
		w.format()
	case n < 94:
		w.open()
	case n < 96:
		w.crash(randomKeep(w.r))
	}
	if w.broken && w.r.Intn(3) == 0 {
		w.crash(randomKeep(w.r))
		w.open()
	}
	w.look()
}

// TestWhateverHappens makes all calls in all orders.
func TestWhateverHappens(t *testing.T) {
	r := rand.New(rand.NewSource(163))
	for round := range 400 {
		w := newWorld(t, r, []int{20, 36, 60, 100, 300}[round%5])
		if e := w.disk.Fuse(r.Intn(8) - 2); e != api.OK {
			t.Fatalf("Fuse: %d", e)
		}
		for w.store == nil {
			w.step()
		}
		for range 150 {
			w.step()
			if w.r.Intn(20) == 0 {
				w.branchOff()
			}
		}
	}
}

// TestPagesSuffice has stores with as many keys as there is room for, of which each Commit
// replaces all, while four views have states without a key in common.
func TestPagesSuffice(t *testing.T) {
	r := rand.New(rand.NewSource(164))
	for _, pages := range []int{20, 35, 36, 51, 52, 68, 100, 999, 16384} {
		d, s := begin(t, pages)
		views := make([]snapshot, 4)
		for i := range views {
			views[i].view = mustView(t, s)
		}
		for round := range 12 {
			next := randomContents(r, roomOf(pages))
			become(t, r, s, next)
			must(t, "Commit", s.Commit(), api.OK)
			oldest := &views[round%4]
			must(t, "Close", oldest.view.Close(), api.OK)
			*oldest = snapshot{mustView(t, s), next}
			for _, v := range views {
				mustHave(t, v.view, v.has)
			}
			mustHave(t, s, next)
			c := d.Clone()
			must(t, "Crash", c.Crash(nil), api.OK)
			mustHave(t, mustOpen(t, c), next)
		}
	}
}

// TestManyCommits has a store that lives long, and changes one key at a time. Its tree gets
// as bad as random changes make it.
func TestManyCommits(t *testing.T) {
	r := rand.New(rand.NewSource(165))
	for _, pages := range []int{20, 52, 400, 16384} {
		d, s := begin(t, pages)
		c, room := contents{}, roomOf(pages)
		for range 3000 {
			key, value := randomText(r, 1+r.Intn(2)), randomValue(r)
			if keys := slices.Sorted(maps.Keys(c)); len(c) == room || len(c) > 0 && r.Intn(3) == 0 {
				gone := keys[r.Intn(len(keys))]
				must(t, "Delete", s.Delete(gone), api.OK)
				delete(c, gone)
			}
			must(t, "Put", s.Put(key, value), api.OK)
			c[key] = value
			must(t, "Commit", s.Commit(), api.OK)
		}
		mustHave(t, s, c)
		must(t, "Crash", d.Crash(nil), api.OK)
		mustHave(t, mustOpen(t, d), c)
	}
}

// TestSameCallsSameResults makes the same calls for two disks: all that can be seen is equal.
func TestSameCallsSameResults(t *testing.T) {
	var texts [2][]string
	for i := range texts {
		r := rand.New(rand.NewSource(166))
		d, s := begin(t, 300)
		c := contents{}
		for range 30 {
			change(t, r, s, c, 18)
			must(t, "Commit", s.Commit(), api.OK)
		}
		for number := range d.Pages() {
			text, e := d.Read(number)
			must(t, "Read", e, api.OK)
			texts[i] = append(texts[i], text)
		}
	}
	if !slices.Equal(texts[0], texts[1]) {
		t.Error("the same calls write different pages")
	}
}
