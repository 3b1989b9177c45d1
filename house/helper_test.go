package house_test

import (
	"math/rand"
	"slices"
	"strings"
	"testing"

	"acrospire/api"
	"acrospire/house"
	"acrospire/lots"
	"acrospire/sync"
)

// plant is a house in which nothing is lost, with room for so many acts.
func plant(beds, cells, room int) api.House {
	return api.House{
		Beds: beds, Cells: cells, Full: 1000, Grain: api.Grain{Num: 1, Den: 4},
		Levels: 10, Factor: 100, Sites: 3, Pages: 4 + 16*room,
	}
}

func mustNew(t *testing.T, h api.House) *house.House {
	t.Helper()
	x, e := house.New(h)
	if x == nil || e != api.OK {
		t.Fatalf("New(%v) = %p, %d", h, x, e)
	}
	return x
}

// begin returns a house with two beds of three cells each.
func begin(t *testing.T) *house.House {
	t.Helper()
	return mustNew(t, plant(2, 3, 100))
}

// mustSay checks Say for lines, each followed by its answer.
func mustSay(t *testing.T, x *house.House, texts ...string) {
	t.Helper()
	for pair := range slices.Chunk(texts, 2) {
		if got := x.Say(pair[0]); got != pair[1]+"\n" {
			t.Fatalf("Say(%q) = %q, want %q", pair[0], got, pair[1])
		}
	}
}

// mustRefuse checks the error of Do, and that it leaves everything as it is.
func mustRefuse(t *testing.T, x *house.House, want api.Errno, lines ...string) {
	t.Helper()
	for _, line := range lines {
		text, acts, room := x.Text(), x.Acts(), x.Room()
		if answer, e := x.Do(line); answer != "" || e != want {
			t.Errorf("Do(%q) = %q, %d, want %d", line, answer, e, want)
		}
		if x.Text() != text || x.Acts() != acts || x.Room() != room {
			t.Errorf("Do(%q) is refused, but changes\n%sto\n%swith %d acts instead of %d", line, text, x.Text(), x.Acts(), acts)
		}
	}
}

func mustHaveText(t *testing.T, x *house.House, lines ...string) {
	t.Helper()
	if got, want := x.Text(), strings.Join(lines, "\n")+"\n"; got != want {
		t.Fatalf("Text is\n%swant\n%s", got, want)
	}
}

func mustHold(t *testing.T, x *house.House, number, lot int, cells ...int) {
	t.Helper()
	gotLot, gotCells, e := x.Bed(number)
	if gotLot != lot || !slices.Equal(gotCells, cells) || e != api.OK {
		t.Fatalf("Bed(%d) = %d, %v, %d, want %d, %v", number, gotLot, gotCells, e, lot, cells)
	}
}

func mustLackBed(t *testing.T, x *house.House, number int, want api.Errno) {
	t.Helper()
	if lot, cells, e := x.Bed(number); lot != 0 || len(cells) != 0 || e != want {
		t.Fatalf("Bed(%d) = %d, %v, %d, want %d", number, lot, cells, e, want)
	}
}

// mustBe compares all that can be seen of a house with the model.
func mustBe(t *testing.T, x *house.House, m *model) {
	t.Helper()
	if got, want := x.Text(), m.text(); got != want {
		t.Fatalf("Text is\n%swant\n%s", got, want)
	}
	if x.Time() != m.now.time || x.Acts() != len(m.acts) || x.Room() != m.room() {
		t.Fatalf("time %d, %d acts, room %d, want %d, %d, %d", x.Time(), x.Acts(), x.Room(), m.now.time, len(m.acts), m.room())
	}
	mustBeSameBook(t, x.Book(), m.now.book)
	for number := range m.plant.Beds {
		if lot, full := m.now.holds[number]; full {
			mustHold(t, x, number, lot, m.now.cells[number]...)
		} else {
			mustLackBed(t, x, number, api.ErrNone)
		}
	}
	mustLackBed(t, x, m.plant.Beds, api.ErrRange)
	if !slices.Equal(x.Digest().Nodes(), m.now.digest.Nodes()) {
		t.Fatalf("Digest has %v, want %v", x.Digest().Nodes(), m.now.digest.Nodes())
	}
	for site, table := range m.now.tables {
		if got, e := x.Table(site); e != api.OK || !sync.Equal(got, table) {
			t.Fatalf("Table(%d) has %v, %d, want %v", site, got.Entries(), e, table.Entries())
		}
	}
}

func mustBeSameBook(t *testing.T, got, want *lots.Book) {
	t.Helper()
	if got.Lots() != want.Lots() {
		t.Fatalf("the book has %d lots, want %d", got.Lots(), want.Lots())
	}
	for lot := range want.Lots() {
		made, left, shipped, discarded, _ := got.Mass(lot)
		wantMade, wantLeft, wantShipped, wantDiscarded, _ := want.Mass(lot)
		if made != wantMade || left != wantLeft || shipped != wantShipped || discarded != wantDiscarded {
			t.Fatalf("lot %d has %d %d %d %d", lot, made, left, shipped, discarded)
		}
		parts, _ := got.Parts(lot)
		if wantParts, _ := want.Parts(lot); !slices.Equal(parts, wantParts) {
			t.Fatalf("lot %d has the parts %v, want %v", lot, parts, wantParts)
		}
	}
}

// randomPlant returns any house with little room.
func randomPlant(r *rand.Rand) api.House {
	den := 1 + r.Intn(20)
	num := r.Intn(den/2 + 1)
	return api.House{
		Beds: 1 + r.Intn(8), Cells: 1 + r.Intn(6), Full: r.Intn(2000),
		Grain:  api.Grain{Num: num, Den: den, Loss: r.Intn(den - 2*num + 1)},
		Levels: 1 + r.Intn(11), Factor: 1 + r.Intn(40), Sites: 1 + r.Intn(8), Pages: 20 + r.Intn(2000),
	}
}

// both says a line to a house and to its model, which have to answer alike.
func both(t *testing.T, x *house.House, m *model, line string) {
	t.Helper()
	want := m.say(line)
	if got := x.Say(line); got != want {
		t.Fatalf("Say(%q) = %q, want %q, in\n%s", line, got, want, x.Text())
	}
}
