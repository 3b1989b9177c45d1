package sync_test

import (
	"math"
	"math/rand"
	"slices"
	"strconv"
	"strings"
	"testing"

	"acrospire/api"
	"acrospire/sync"
)

func mustNew(t *testing.T, sites int) *sync.Net {
	t.Helper()
	n, e := sync.NewNet(sites)
	if n == nil || e != api.OK {
		t.Fatalf("NewNet(%d): %d", sites, e)
	}
	return n
}

func must(t *testing.T, call string, e, want api.Errno) {
	t.Helper()
	if e != want {
		t.Fatalf("%s: %d, want %d", call, e, want)
	}
}

func tableOf(t *testing.T, n *sync.Net, site int) sync.Table {
	t.Helper()
	table, e := n.Table(site)
	must(t, "Table", e, api.OK)
	return table
}

// A post is what a letter is in the model of a net.
type post struct {
	from, to int
	table    model
}

// A mesh is the model of a net.
type mesh struct {
	tables  []model
	letters []post
}

func (m *mesh) has(site int) bool {
	return 0 <= site && site < len(m.tables)
}

func (m *mesh) settled() bool {
	for _, one := range m.tables {
		for _, other := range m.tables {
			if !one.equal(other) {
				return false
			}
		}
	}
	return true
}

// mustMesh checks everything that can be seen of a net.
func mustMesh(t *testing.T, n *sync.Net, m *mesh) {
	t.Helper()
	if n.Sites() != len(m.tables) || n.Settled() != m.settled() {
		t.Fatalf("Sites = %d, Settled = %t, want %d, %t", n.Sites(), n.Settled(), len(m.tables), m.settled())
	}
	for site, table := range m.tables {
		mustBe(t, tableOf(t, n, site), table)
	}
	var pairs [][2]int
	for _, p := range m.letters {
		pairs = append(pairs, [2]int{p.from, p.to})
	}
	if got := n.Letters(); !slices.Equal(got, pairs) {
		t.Fatalf("Letters = %v, want %v", got, pairs)
	}
}

func TestNewNet(t *testing.T) {
	for sites := 1; sites <= 8; sites++ {
		mustMesh(t, mustNew(t, sites), &mesh{tables: make([]model, sites)})
	}
	for _, sites := range []int{0, -1, 9, 10, 1 << 32, 1<<32 + 1, math.MaxInt, math.MinInt} {
		if n, e := sync.NewNet(sites); n != nil || e != api.ErrArg {
			t.Errorf("NewNet(%d) = %p, %d", sites, n, e)
		}
	}
}

func TestLetters(t *testing.T) {
	n := mustNew(t, 3)
	must(t, "Put", n.Put(0, "a", "1"), api.OK)
	must(t, "Send", n.Send(0, 1), api.OK)
	must(t, "Put", n.Put(0, "a", "2"), api.OK)
	must(t, "Send", n.Send(0, 2), api.OK)
	must(t, "Send", n.Send(1, 1), api.OK)
	old := model{seen(1), map[api.Entry]bool{entry("a", "1", 0, 1): true}}
	now := model{seen(2), map[api.Entry]bool{entry("a", "2", 0, 2): true}}
	m := &mesh{[]model{now, {}, {}}, []post{{from: 0, to: 1}, {from: 0, to: 2}, {from: 1, to: 1}}}
	mustMesh(t, n, m)
	// A letter has the table of when it was sent. It can be delivered again as long as it is kept.
	must(t, "Deliver", n.Deliver(0, true), api.OK)
	m.tables[1] = old
	mustMesh(t, n, m)
	must(t, "Remove", n.Remove(1, "a"), api.OK)
	must(t, "Deliver", n.Deliver(0, true), api.OK)
	m.tables[1] = model{seen: seen(1)}
	mustMesh(t, n, m)
	// A letter to its own sender is one like others.
	must(t, "Deliver", n.Deliver(2, false), api.OK)
	m.letters = m.letters[:2]
	mustMesh(t, n, m)
	must(t, "Deliver", n.Deliver(1, false), api.OK)
	m.tables[2], m.letters = now, m.letters[:1]
	mustMesh(t, n, m)
	must(t, "Lose", n.Lose(0), api.OK)
	m.letters = nil
	mustMesh(t, n, m)
	must(t, "Lose", n.Lose(0), api.ErrRange)
	must(t, "Deliver", n.Deliver(0, false), api.ErrRange)
}

func TestSettled(t *testing.T) {
	n := mustNew(t, 1)
	must(t, "Put", n.Put(0, "a", "1"), api.OK)
	if !n.Settled() {
		t.Error("one site is not settled")
	}
	for late := range 3 {
		n := mustNew(t, 3)
		must(t, "Put", n.Put(late, "a", "1"), api.OK)
		must(t, "Remove", n.Remove(late, "a"), api.OK)
		if n.Settled() {
			t.Errorf("settled, but only site %d has seen a write", late)
		}
		for to := range 3 {
			must(t, "Send", n.Send(late, to), api.OK)
			must(t, "Deliver", n.Deliver(0, false), api.OK)
		}
		if !n.Settled() {
			t.Error("not settled")
		}
	}
}

func TestNetsWithManyLetters(t *testing.T) {
	n := mustNew(t, 2)
	for range 256 {
		must(t, "Send", n.Send(1, 0), api.OK)
	}
	for range 2 {
		must(t, "Send", n.Send(1, 0), api.ErrFull)
		must(t, "Send", n.Send(0, 0), api.ErrFull)
		must(t, "Send", n.Send(2, 0), api.ErrReplica)
		must(t, "Send", n.Send(0, 2), api.ErrReplica)
		must(t, "Deliver", n.Deliver(255, true), api.OK)
		must(t, "Send", n.Send(1, 0), api.ErrFull)
		must(t, "Deliver", n.Deliver(256, true), api.ErrRange)
		must(t, "Lose", n.Lose(256), api.ErrRange)
		must(t, "Lose", n.Lose(255), api.OK)
		must(t, "Send", n.Send(0, 1), api.OK)
		must(t, "Deliver", n.Deliver(0, false), api.OK)
		must(t, "Send", n.Send(0, 1), api.OK)
	}
	if list := n.Letters(); len(list) != 256 || list[255] != [2]int{0, 1} || list[0] != [2]int{1, 0} {
		t.Errorf("Letters = %v", list)
	}
}

func TestNetsRefuse(t *testing.T) {
	long := strings.Repeat("x", 65)
	for sites := 1; sites <= 8; sites++ {
		n := mustNew(t, sites)
		must(t, "Put", n.Put(sites-1, "k", "x"), api.OK)
		must(t, "Send", n.Send(sites-1, 0), api.OK)
		for _, site := range append([]int{sites, sites + 1}, noSites...) {
			table, e := n.Table(site)
			must(t, "Table", e, api.ErrReplica)
			mustHave(t, table, seen())
			must(t, "Put", n.Put(site, "k", "y"), api.ErrReplica)
			must(t, "Put", n.Put(site, "", long), api.ErrReplica)
			must(t, "Remove", n.Remove(site, "k"), api.ErrReplica)
			must(t, "Send", n.Send(site, 0), api.ErrReplica)
			must(t, "Send", n.Send(0, site), api.ErrReplica)
			must(t, "Send", n.Send(site, site), api.ErrReplica)
		}
		must(t, "Put", n.Put(0, "", "y"), api.ErrArg)
		must(t, "Put", n.Put(0, long, "y"), api.ErrArg)
		must(t, "Put", n.Put(0, "k", long), api.ErrArg)
		for _, letter := range []int{-1, 1, 2, 256, 1 << 32, -1 << 32, math.MaxInt, math.MinInt} {
			must(t, "Deliver", n.Deliver(letter, false), api.ErrRange)
			must(t, "Deliver", n.Deliver(letter, true), api.ErrRange)
			must(t, "Lose", n.Lose(letter), api.ErrRange)
		}
		m := &mesh{make([]model, sites), []post{{from: sites - 1, to: 0}}}
		m.tables[sites-1], _ = model{}.put(sites-1, "k", "x")
		mustMesh(t, n, m)
	}
}

func TestFullTablesOfNets(t *testing.T) {
	n := mustNew(t, 2)
	for i := range 64 {
		must(t, "Put", n.Put(0, strconv.Itoa(i), "x"), api.OK)
	}
	before := tableOf(t, n, 0)
	must(t, "Put", n.Put(0, "k", "x"), api.ErrFull)
	mustBeEqual(t, tableOf(t, n, 0), before)
	must(t, "Put", n.Put(1, "k", "x"), api.OK)
	must(t, "Send", n.Send(1, 0), api.OK)
	must(t, "Deliver", n.Deliver(0, false), api.OK)
	must(t, "Put", n.Put(0, "k", "y"), api.OK)
	must(t, "Put", n.Put(0, "j", "y"), api.ErrFull)
	if list := tableOf(t, n, 0).Entries(); len(list) != 65 {
		t.Errorf("%d entries", len(list))
	}
}

func TestUnusableNets(t *testing.T) {
	refused, _ := sync.NewNet(9)
	for _, n := range []*sync.Net{nil, {}, new(sync.Net), refused} {
		if n.Sites() != 0 || len(n.Letters()) != 0 || n.Settled() {
			t.Errorf("Sites = %d, Letters = %v, Settled = %t", n.Sites(), n.Letters(), n.Settled())
		}
		for _, number := range append([]int{0, 1}, noSites...) {
			table, e := n.Table(number)
			must(t, "Table", e, api.ErrUnusable)
			mustHave(t, table, seen())
			must(t, "Put", n.Put(number, "k", "x"), api.ErrUnusable)
			must(t, "Put", n.Put(number, "", "x"), api.ErrUnusable)
			must(t, "Remove", n.Remove(number, "k"), api.ErrUnusable)
			must(t, "Send", n.Send(number, 0), api.ErrUnusable)
			must(t, "Send", n.Send(0, number), api.ErrUnusable)
			must(t, "Deliver", n.Deliver(number, false), api.ErrUnusable)
			must(t, "Deliver", n.Deliver(number, true), api.ErrUnusable)
			must(t, "Lose", n.Lose(number), api.ErrUnusable)
		}
	}
}

// act performs one random act on a net and on its model, and checks that both refuse the same.
func act(t *testing.T, r *rand.Rand, n *sync.Net, m *mesh) {
	t.Helper()
	site, other, letter := r.Intn(len(m.tables)+1)-r.Intn(2), r.Intn(len(m.tables)+1)-r.Intn(2), r.Intn(len(m.letters)+2)-1
	key, value := text(r), text(r)
	switch r.Intn(8) {
	case 0, 1:
		want := api.ErrReplica
		if m.has(site) {
			m.tables[site], want = m.tables[site].put(site, key, value)
		}
		must(t, "Put", n.Put(site, key, value), want)
	case 2:
		want := api.ErrReplica
		if m.has(site) {
			m.tables[site], want = m.tables[site].remove(key), api.OK
		}
		must(t, "Remove", n.Remove(site, key), want)
	case 3, 4, 5:
		want := api.ErrReplica
		if m.has(site) && m.has(other) {
			m.letters, want = append(m.letters, post{site, other, m.tables[site]}), api.OK
		}
		must(t, "Send", n.Send(site, other), want)
	default:
		open(t, r, n, m, letter)
	}
}

// open delivers a letter, with or without keeping it, or loses it.
func open(t *testing.T, r *rand.Rand, n *sync.Net, m *mesh, letter int) {
	t.Helper()
	lost, kept := r.Intn(3) == 0, r.Intn(3) == 0
	want := api.ErrRange
	if 0 <= letter && letter < len(m.letters) {
		want = api.OK
		p := m.letters[letter]
		if !lost {
			m.tables[p.to] = m.tables[p.to].merge(p.table)
		}
		if lost || !kept {
			m.letters = slices.Delete(m.letters, letter, letter+1)
		}
	}
	if lost {
		must(t, "Lose", n.Lose(letter), want)
	} else {
		must(t, "Deliver", n.Deliver(letter, kept), want)
	}
}

func TestNetsAreAsTheyShouldBe(t *testing.T) {
	r := rand.New(rand.NewSource(146))
	for range 150 {
		sites := 1 + r.Intn(8)
		n, m := mustNew(t, sites), &mesh{tables: make([]model, sites)}
		for range 120 {
			act(t, r, n, m)
			list := n.Letters()
			clear(list)
			mustMesh(t, n, m)
		}
	}
}

// The tables that a net gave out stay as they were, and what is done with them does not
// change the net; nor does what happens in another net.
func TestTablesOfNetsNeverChange(t *testing.T) {
	r := rand.New(rand.NewSource(147))
	for range 60 {
		sites := 1 + r.Intn(8)
		n, m := mustNew(t, sites), &mesh{tables: make([]model, sites)}
		another, other := mustNew(t, sites), &mesh{tables: make([]model, sites)}
		var given []pair
		for range 60 {
			act(t, r, n, m)
			site := r.Intn(sites)
			given = append(given, pair{tableOf(t, n, site), m.tables[site]})
			table := tableOf(t, n, site).Remove(text(r))
			mustPut(t, sync.Merge(table, given[r.Intn(len(given))].table), site, text(r), text(r))
			act(t, r, another, other)
		}
		mustMesh(t, n, m)
		mustMesh(t, another, other)
		for _, p := range given {
			mustBe(t, p.table, p.model)
		}
	}
}
