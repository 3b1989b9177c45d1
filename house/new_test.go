package house_test

import (
	"slices"
	"testing"

	"acrospire/api"
	"acrospire/digest"
	"acrospire/house"
	"acrospire/sync"
)

// P11.1
func TestHousesHaveBounds(t *testing.T) {
	smallest := api.House{Beds: 1, Cells: 1, Full: 0, Grain: api.Grain{Num: 0, Den: 1, Loss: 0}, Levels: 1, Factor: 1, Sites: 1, Pages: 20}
	greatest := api.House{
		Beds: 8, Cells: 64, Full: 1 << 20, Grain: api.Grain{Num: 1 << 19, Den: 1 << 20, Loss: 0},
		Levels: 20, Factor: 1000, Sites: 8, Pages: 16384,
	}
	lossy := smallest
	lossy.Grain = api.Grain{Num: 1, Den: 7, Loss: 5}
	for _, h := range []api.House{smallest, greatest, lossy} {
		if e := house.Check(h); e != api.OK {
			t.Errorf("Check(%v): %d", h, e)
		}
		mustNew(t, h)
	}
	for _, spoil := range []func(small, great *api.House){
		func(small, great *api.House) { small.Beds, great.Beds = 0, 9 },
		func(small, great *api.House) { small.Cells, great.Cells = 0, 65 },
		func(small, great *api.House) { small.Full, great.Full = -1, 1<<20+1 },
		func(small, great *api.House) { small.Grain.Num, great.Grain.Num = -1, 1<<19+1 },
		func(small, great *api.House) { small.Grain.Den, great.Grain.Den = 0, 1<<20+1 },
		func(small, great *api.House) { small.Grain.Loss, great.Grain.Loss = -1, 1 },
		func(small, great *api.House) { small.Levels, great.Levels = 0, 21 },
		func(small, great *api.House) { small.Factor, great.Factor = 0, 1001 },
		func(small, great *api.House) { small.Sites, great.Sites = 0, 9 },
		func(small, great *api.House) { small.Pages, great.Pages = 19, 16385 },
		func(small, great *api.House) { small.Beds, great.Beds = -1<<63, 1<<63-1 },
		func(small, great *api.House) { small.Levels, great.Levels = -1<<63, 1<<63-1 },
		func(small, great *api.House) { small.Grain.Num, great.Grain.Loss = 1<<62, 1<<63-1 },
		func(small, great *api.House) { small.Pages, great.Pages = -1<<63, 1<<63-1 },
		func(small, great *api.House) { *small, *great = api.House{}, api.House{Beds: 1} },
	} {
		small, great := smallest, greatest
		spoil(&small, &great)
		mustNotBeHouse(t, small)
		mustNotBeHouse(t, great)
	}
}

func mustNotBeHouse(t *testing.T, h api.House) {
	t.Helper()
	if e := house.Check(h); e != api.ErrConfig {
		t.Errorf("Check(%v): %d", h, e)
	}
	if x, e := house.New(h); x != nil || e != api.ErrConfig {
		t.Errorf("New(%v) = %p, %d", h, x, e)
	}
	if said, e := house.Play(h, "save"); said != "" || e != api.ErrConfig {
		t.Errorf("Play of %v = %q, %d", h, said, e)
	}
}

// P11.1
func TestNewHouseIsEmpty(t *testing.T) {
	x := mustNew(t, plant(2, 3, 100))
	mustHaveText(t, x, "time 0", "bed 0 empty", "bed 1 empty", "site 0 0 0 0 0 0 0 0 0", "site 1 0 0 0 0 0 0 0 0", "site 2 0 0 0 0 0 0 0 0")
	if x.Time() != 0 || x.Acts() != 0 || x.Room() != 100 {
		t.Errorf("time %d, %d acts, room %d", x.Time(), x.Acts(), x.Room())
	}
	if book := x.Book(); book == nil || book.Lots() != 0 {
		t.Errorf("Book has lots")
	}
	if d := x.Digest(); d.Levels() != 10 || d.Factor() != 100 || d.Count() != 0 {
		t.Errorf("Digest has %d levels, the factor %d and %d values", d.Levels(), d.Factor(), d.Count())
	}
	for number := range 2 {
		mustLackBed(t, x, number, api.ErrNone)
	}
	for site := range 3 {
		if table, e := x.Table(site); e != api.OK || !sync.Equal(table, sync.Table{}) {
			t.Errorf("Table(%d) has %v, %d", site, table.Entries(), e)
		}
	}
}

// P11.1
func TestRoomIsThatOfTheStore(t *testing.T) {
	for pages, room := range map[int]int{20: 1, 35: 1, 36: 2, 51: 2, 52: 3, 400: 24, 16384: 1023} {
		h := plant(1, 1, 1)
		h.Pages = pages
		x := mustNew(t, h)
		if x.Room() != room || x.Acts() != 0 {
			t.Errorf("%d pages: %d acts, room %d, want %d", pages, x.Acts(), x.Room(), room)
		}
		mustSay(t, x, "tick 1", "lost")
		if x.Room() != room-1 || x.Acts() != 1 {
			t.Errorf("%d pages: %d acts, room %d, want %d", pages, x.Acts(), x.Room(), room-1)
		}
	}
}

// P11.1
func TestBedsAndTablesAreFound(t *testing.T) {
	x := begin(t)
	mustSay(t, x, "receive 50", "lot 0", "charge 1 0 20", "lot 1", "steep 1 1300", "rest 0", "put 2 k v", "ok")
	mustHold(t, x, 1, 1, 1000, 300, 0)
	mustLackBed(t, x, 0, api.ErrNone)
	for _, number := range []int{2, -1, 8, 1 << 62, -1 << 63} {
		mustLackBed(t, x, number, api.ErrRange)
	}
	if table, e := x.Table(2); e != api.OK || !slices.Equal(table.Get("k"), []string{"v"}) {
		t.Errorf("Table(2) has %v, %d", table.Entries(), e)
	}
	for _, site := range []int{3, -1, 7, 8, 1 << 62, -1 << 63} {
		if table, e := x.Table(site); e != api.ErrReplica || !sync.Equal(table, sync.Table{}) {
			t.Errorf("Table(%d) has %v, %d", site, table.Entries(), e)
		}
	}
}

// P11.1
func TestResultsAreCopies(t *testing.T) {
	x := begin(t)
	mustSay(t, x, "receive 50", "lot 0", "charge 0 0 20", "lot 1", "steep 0 10", "rest 0", "read 0", "spread 10")
	text := x.Text()
	book, d := x.Book(), x.Digest()
	book.Receive(7)
	book.Ship(0, 1)
	d.Add(5, 5)
	_, cells, _ := x.Bed(0)
	cells[0] = 77
	if x.Text() != text {
		t.Errorf("Text has become\n%swas\n%s", x.Text(), text)
	}
	mustHold(t, x, 0, 1, 10, 0, 0)
	mustSay(t, x, "receive 5", "lot 2", "turn 0", "ok", "read 0", "spread 10")
	if book.Lots() != 3 || d.Count() != 3 || cells[0] != 77 {
		t.Errorf("the results have changed: %d lots, %d values, %v", book.Lots(), d.Count(), cells)
	}
}

// P11.1, P11.2, P11.7
func TestUnusableHouses(t *testing.T) {
	var zero house.House
	for _, x := range []*house.House{nil, &zero, new(house.House)} {
		for _, line := range []string{"receive 50", "save", "crash", "crash 1", "nothing", ""} {
			if answer, e := x.Do(line); answer != "" || e != api.ErrUnusable {
				t.Errorf("Do(%q) = %q, %d", line, answer, e)
			}
			if said := x.Say(line); said != "" {
				t.Errorf("Say(%q) = %q", line, said)
			}
		}
		if x.Text() != "" || x.Time() != 0 || x.Acts() != 0 || x.Room() != 0 || x.Book() != nil {
			t.Errorf("text %q, time %d, %d acts, room %d, book %p", x.Text(), x.Time(), x.Acts(), x.Room(), x.Book())
		}
		for _, number := range []int{0, -1, 99} {
			mustLackBed(t, x, number, api.ErrUnusable)
			if table, e := x.Table(number); e != api.ErrUnusable || !sync.Equal(table, sync.Table{}) {
				t.Errorf("Table(%d): %d", number, e)
			}
		}
		if x.Digest() != (digest.Digest{}) {
			t.Errorf("Digest is usable")
		}
	}
}
