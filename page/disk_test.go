package page_test

import (
	"math"
	"math/rand"
	"slices"
	"strings"
	"testing"

	"acrospire/api"
	"acrospire/page"
)

// A note is a write that is pending.
type note struct {
	page int
	data string
}

// A drum is the model of a disk: it keeps all pending writes in the order in which they came.
type drum struct {
	durable []string
	pending []note
	off     bool
	fuse    int
}

func newDrum(pages int) *drum {
	return &drum{durable: slices.Repeat([]string{strings.Repeat("\x00", 256)}, pages), fuse: -1}
}

func (m *drum) clone() *drum {
	return &drum{slices.Clone(m.durable), slices.Clone(m.pending), m.off, m.fuse}
}

// writes returns the pending writes of a page.
func (m *drum) writes(page int) []string {
	var list []string
	for _, n := range m.pending {
		if n.page == page {
			list = append(list, n.data)
		}
	}
	return list
}

func (m *drum) read(page int) (string, api.Errno) {
	if m.off {
		return "", api.ErrOff
	}
	if page < 0 || page >= len(m.durable) {
		return "", api.ErrRange
	}
	list := append([]string{m.durable[page]}, m.writes(page)...)
	return list[len(list)-1], api.OK
}

// call makes a call that the fuse counts.
func (m *drum) call(effect func()) api.Errno {
	if m.fuse == 0 {
		m.off = true
		return api.ErrOff
	}
	if m.fuse > 0 {
		m.fuse--
	}
	effect()
	return api.OK
}

func (m *drum) write(page int, data string) api.Errno {
	if _, e := m.read(page); e != api.OK {
		return e
	}
	if len(data) > 256 {
		return api.ErrArg
	}
	return m.call(func() {
		m.pending = append(m.pending, note{page, data + strings.Repeat("\x00", 256-len(data))})
	})
}

func (m *drum) sync() api.Errno {
	if m.off {
		return api.ErrOff
	}
	return m.call(func() {
		for _, n := range m.pending {
			m.durable[n.page] = n.data
		}
		m.pending = nil
	})
}

func (m *drum) crash(keep []int) {
	i := 0
	for page := range m.durable {
		writes := m.writes(page)
		if len(writes) == 0 {
			continue
		}
		k := 0
		if len(keep) > 0 {
			k = keep[i%len(keep)]
		}
		i++
		for number, data := range writes {
			if number < k {
				m.durable[page] = data
			}
		}
	}
	m.pending, m.off, m.fuse = nil, false, -1
}

// mustBe checks everything that can be seen of a disk.
func mustBe(t *testing.T, d *page.Disk, m *drum) {
	t.Helper()
	if d.Pages() != len(m.durable) || d.Off() != m.off {
		t.Fatalf("Pages = %d, Off = %t, want %d, %t", d.Pages(), d.Off(), len(m.durable), m.off)
	}
	for number := -1; number <= len(m.durable); number++ {
		want, e := m.read(number)
		if got, f := d.Read(number); got != want || f != e {
			t.Fatalf("Read(%d) = %q, %d, want %q, %d", number, got, f, want, e)
		}
	}
}

// mustBeLike checks everything that can be seen of a disk, also what it shows only after a
// crash.
func mustBeLike(t *testing.T, d *page.Disk, m *drum) {
	t.Helper()
	mustBe(t, d, m)
	for _, keep := range [][]int{nil, {1}, {2, 0}, {0, 1, 9}} {
		c, n := d.Clone(), m.clone()
		mustBe(t, c, n)
		must(t, "Crash", c.Crash(keep), api.OK)
		n.crash(keep)
		mustBe(t, c, n)
	}
	mustBe(t, d, m)
}

func TestNewDisk(t *testing.T) {
	for _, pages := range []int{20, 21, 36, 1000, 16383, 16384} {
		mustBe(t, mustNew(t, pages), newDrum(pages))
	}
	for _, pages := range []int{19, 0, -1, -20, 16385, 1<<32 + 20, math.MaxInt, math.MinInt} {
		if d, e := page.NewDisk(pages); d != nil || e != api.ErrArg {
			t.Errorf("NewDisk(%d) = %p, %d", pages, d, e)
		}
	}
}

func TestWrite(t *testing.T) {
	d, m := mustNew(t, 20), newDrum(20)
	long := strings.Repeat("x", 256)
	for _, n := range []note{{0, "a"}, {19, long}, {19, ""}, {3, long}, {3, "abc"}, {3, "\x00\xff"}, {0, long[:255]}} {
		must(t, "Write", d.Write(n.page, n.data), m.write(n.page, n.data))
		mustBeLike(t, d, m)
	}
	for _, n := range []note{{-1, "a"}, {20, "a"}, {1 << 32, "a"}, {math.MinInt, "a"}, {math.MaxInt, long + "x"}} {
		must(t, "Write outside", d.Write(n.page, n.data), api.ErrRange)
		if text, e := d.Read(n.page); text != "" || e != api.ErrRange {
			t.Errorf("Read(%d) = %q, %d", n.page, text, e)
		}
	}
	must(t, "Write of much", d.Write(0, long+"x"), api.ErrArg)
	must(t, "Write of very much", d.Write(0, strings.Repeat("x", 1<<20)), api.ErrArg)
	mustBeLike(t, d, m)
}

func TestSync(t *testing.T) {
	d, m := mustNew(t, 20), newDrum(20)
	must(t, "Sync of nothing", d.Sync(), api.OK)
	for _, data := range []string{"1", "2"} {
		for _, number := range []int{7, 2, 11} {
			must(t, "Write", d.Write(number, data), m.write(number, data))
		}
	}
	must(t, "Sync", d.Sync(), m.sync())
	mustBeLike(t, d, m)
	must(t, "Write", d.Write(2, "3"), m.write(2, "3"))
	mustBeLike(t, d, m)
	must(t, "Sync", d.Sync(), m.sync())
	mustBeLike(t, d, m)
}

func TestFuse(t *testing.T) {
	for calls := range 7 {
		d, m := mustNew(t, 20), newDrum(20)
		m.fuse = calls
		must(t, "Fuse", d.Fuse(calls), api.OK)
		for range 3 {
			must(t, "Write", d.Write(5, "x"), m.write(5, "x"))
			// Calls that fail anyway leave the fuse as it is.
			must(t, "Write outside", d.Write(20, "x"), m.write(20, "x"))
			must(t, "Write of much", d.Write(1, strings.Repeat("x", 257)), m.write(1, strings.Repeat("x", 257)))
			mustBeLike(t, d, m)
			must(t, "Sync", d.Sync(), m.sync())
			mustBeLike(t, d, m)
		}
		if d.Off() != (calls < 6) {
			t.Errorf("Off = %t after 6 calls, with a fuse of %d", d.Off(), calls)
		}
		must(t, "Crash", d.Crash(nil), api.OK)
		m.crash(nil)
		for range 9 {
			must(t, "Write after the crash", d.Write(5, "y"), m.write(5, "y"))
			must(t, "Sync after the crash", d.Sync(), api.OK)
		}
	}
}

func TestFusesReplaceEachOther(t *testing.T) {
	for _, last := range []int{-1, -2, math.MinInt, math.MaxInt, 2} {
		d := mustNew(t, 20)
		must(t, "Fuse", d.Fuse(0), api.OK)
		must(t, "Fuse", d.Fuse(last), api.OK)
		must(t, "Write", d.Write(0, "x"), api.OK)
		must(t, "Sync", d.Sync(), api.OK)
		want := api.OK
		if last == 2 {
			want = api.ErrOff
		}
		must(t, "Sync", d.Sync(), want)
	}
}

func TestDiskThatIsOff(t *testing.T) {
	d := mustNew(t, 20)
	must(t, "Write", d.Write(4, "old"), api.OK)
	must(t, "Fuse", d.Fuse(0), api.OK)
	must(t, "Sync", d.Sync(), api.ErrOff)
	for _, number := range []int{4, 20, -1} {
		if text, e := d.Read(number); text != "" || e != api.ErrOff {
			t.Errorf("Read(%d) = %q, %d", number, text, e)
		}
		must(t, "Write", d.Write(number, "new"), api.ErrOff)
		must(t, "Write of much", d.Write(number, strings.Repeat("x", 257)), api.ErrOff)
	}
	must(t, "Sync", d.Sync(), api.ErrOff)
	must(t, "Fuse", d.Fuse(-1), api.ErrOff)
	if !d.Off() || d.Pages() != 20 {
		t.Errorf("Off = %t, Pages = %d", d.Off(), d.Pages())
	}
	must(t, "Crash", d.Crash([]int{9}), api.OK)
	if text, _ := d.Read(4); d.Off() || !strings.HasPrefix(text, "old\x00") {
		t.Errorf("Off = %t, Read = %q", d.Off(), text)
	}
}

// TestCrash has three pages with pending writes, with the positions 0, 1 and 2.
func TestCrash(t *testing.T) {
	for _, c := range []struct {
		keep []int
		want string
	}{
		{nil, "abc"}, {[]int{}, "abc"}, {[]int{0}, "abc"}, {[]int{1}, "113"}, {[]int{2}, "223"}, {[]int{3}, "423"}, {[]int{math.MaxInt}, "423"},
		{[]int{-1}, "abc"}, {[]int{math.MinInt, 1}, "a1c"}, {[]int{1, 2}, "123"}, {[]int{0, 1, 0}, "a1c"}, {[]int{0, 0, 1, 9, 9}, "ab3"}, {[]int{3, 0}, "4b3"},
	} {
		d := mustNew(t, 20)
		for _, n := range []note{{2, "a"}, {9, "b"}, {17, "c"}, {4, "s"}} {
			must(t, "Write", d.Write(n.page, n.data), api.OK)
		}
		must(t, "Sync", d.Sync(), api.OK)
		for _, n := range []note{{17, "3"}, {9, "1"}, {2, "1"}, {9, "2"}, {2, "2"}, {2, "4"}} {
			must(t, "Write", d.Write(n.page, n.data), api.OK)
		}
		keep := slices.Clone(c.keep)
		must(t, "Crash", d.Crash(keep), api.OK)
		if !slices.Equal(keep, c.keep) {
			t.Errorf("Crash changes %v to %v", c.keep, keep)
		}
		m := newDrum(20)
		for i, number := range []int{2, 9, 17} {
			m.write(number, c.want[i:i+1])
		}
		m.write(4, "s")
		m.sync()
		mustBeLike(t, d, m)
	}
}

func TestRandomDisks(t *testing.T) {
	r := rand.New(rand.NewSource(151))
	for range 150 {
		d, m := mustNew(t, 20), newDrum(20)
		for range 60 {
			number, data := r.Intn(6), randomText(r, r.Intn(4))
			switch r.Intn(12) {
			case 0:
				must(t, "Sync", d.Sync(), m.sync())
			case 1:
				want := api.OK
				calls := r.Intn(30) - 5
				if m.off {
					want = api.ErrOff
				} else {
					m.fuse = max(calls, -1)
				}
				must(t, "Fuse", d.Fuse(calls), want)
			case 2:
				keep := randomKeep(r)
				must(t, "Crash", d.Crash(keep), api.OK)
				m.crash(keep)
			case 3:
				// The disk is left behind, and its clone goes on.
				old, was := d, m.clone()
				d = d.Clone()
				must(t, "Write to a clone", d.Write(number, "x"), m.write(number, "x"))
				mustBeLike(t, old, was)
			default:
				must(t, "Write", d.Write(number, data), m.write(number, data))
			}
		}
		mustBeLike(t, d, m)
	}
}

func TestClonesAreIndependent(t *testing.T) {
	d, m := mustNew(t, 20), newDrum(20)
	for range 3 {
		must(t, "Write", d.Write(8, "x"), m.write(8, "x"))
	}
	must(t, "Fuse", d.Fuse(2), api.OK)
	m.fuse = 2
	// Both have room of their own for further pending writes of the page.
	c, n := d.Clone(), m.clone()
	must(t, "Write", d.Write(8, "1"), m.write(8, "1"))
	must(t, "Write", c.Write(8, "2"), n.write(8, "2"))
	mustBeLike(t, d, m)
	mustBeLike(t, c, n)
	must(t, "Sync", d.Sync(), m.sync())
	mustBeLike(t, c, n)
	must(t, "Write", d.Write(8, "3"), api.ErrOff)
	if c.Off() || !d.Clone().Off() {
		t.Errorf("Off = %t, and of a clone of a disk that is off %t", c.Off(), d.Clone().Off())
	}
	must(t, "Sync", c.Sync(), api.OK)
	must(t, "Sync", c.Sync(), api.ErrOff)
}

func TestUnusableDisks(t *testing.T) {
	for name, d := range map[string]*page.Disk{"nil": nil, "zero": {}} {
		if d.Pages() != 0 || d.Off() || d.Clone() != nil {
			t.Errorf("%s: Pages = %d, Off = %t, Clone = %p", name, d.Pages(), d.Off(), d.Clone())
		}
		for _, number := range []int{0, -1, 20} {
			if text, e := d.Read(number); text != "" || e != api.ErrUnusable {
				t.Errorf("%s: Read = %q, %d", name, text, e)
			}
			must(t, name+": Write", d.Write(number, ""), api.ErrUnusable)
			must(t, name+": Write", d.Write(number, strings.Repeat("x", 257)), api.ErrUnusable)
		}
		must(t, name+": Sync", d.Sync(), api.ErrUnusable)
		must(t, name+": Fuse", d.Fuse(1), api.ErrUnusable)
		must(t, name+": Crash", d.Crash(nil), api.ErrUnusable)
		must(t, name+": Crash", d.Crash([]int{1}), api.ErrUnusable)
		must(t, name+": Format", page.Format(d), api.ErrUnusable)
		mustRefuseOpen(t, d, api.ErrUnusable)
	}
}
