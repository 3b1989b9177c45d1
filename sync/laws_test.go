package sync_test

import (
	"math"
	"math/rand"
	"slices"
	"strings"
	"testing"

	"acrospire/api"
	"acrospire/sync"
)

func TestLawsOfMerge(t *testing.T) {
	forests(t, 148, func(r *rand.Rand, pairs []pair) {
		for range 200 {
			a, b, c := pairs[r.Intn(len(pairs))].table, pairs[r.Intn(len(pairs))].table, pairs[r.Intn(len(pairs))].table
			ab := sync.Merge(a, b)
			mustBeEqual(t, ab, sync.Merge(b, a))
			mustBeEqual(t, sync.Merge(ab, c), sync.Merge(a, sync.Merge(b, c)))
			mustBeEqual(t, sync.Merge(a, a), a)
			mustBeEqual(t, sync.Merge(ab, a), ab)
			if !sync.Covers(ab, a) || !sync.Covers(ab, b) || !sync.Covers(a, a) {
				t.Fatalf("%v does not cover %v and %v", ab.Entries(), a.Entries(), b.Entries())
			}
			// Each covers the other one only if they are equal.
			if sync.Covers(a, b) && sync.Covers(b, a) {
				mustBeEqual(t, a, b)
			}
		}
	})
}

func TestWritesCoverWhatWasBefore(t *testing.T) {
	forests(t, 149, func(r *rand.Rand, pairs []pair) {
		for _, p := range pairs {
			key := text(r)
			put := mustPut(t, p.table, r.Intn(8), key, text(r))
			removed := p.table.Remove(key)
			if !sync.Covers(put, p.table) || sync.Covers(p.table, put) || !sync.Covers(removed, p.table) {
				t.Fatalf("%v and %v should cover %v", put.Entries(), removed.Entries(), p.table.Entries())
			}
			if len(p.table.Get(key)) > 0 && sync.Covers(p.table, removed) {
				t.Fatalf("%v covers %v", p.table.Entries(), removed.Entries())
			}
		}
	})
}

// exchange sends the table of one site to another one, and delivers it once or twice.
func exchange(t *testing.T, r *rand.Rand, n *sync.Net, from, to int) {
	t.Helper()
	must(t, "Send", n.Send(from, to), api.OK)
	last := len(n.Letters()) - 1
	if r.Intn(3) == 0 {
		must(t, "Deliver", n.Deliver(last, true), api.OK)
	}
	must(t, "Deliver", n.Deliver(last, false), api.OK)
}

func TestConvergence(t *testing.T) {
	r := rand.New(rand.NewSource(150))
	for range 200 {
		sites := 1 + r.Intn(8)
		n, m := mustNew(t, sites), &mesh{tables: make([]model, sites)}
		for range r.Intn(120) {
			act(t, r, n, m)
		}
		var all sync.Table
		for site := range sites {
			all = sync.Merge(all, tableOf(t, n, site))
		}
		center := r.Intn(sites)
		for _, site := range r.Perm(sites) {
			if site != center {
				exchange(t, r, n, site, center)
			}
		}
		mustBeEqual(t, tableOf(t, n, center), all)
		for _, site := range r.Perm(sites) {
			if site != center {
				exchange(t, r, n, center, site)
			}
		}
		if !n.Settled() {
			t.Fatalf("%d sites are not settled", sites)
		}
		// Old letters change nothing any more.
		for len(n.Letters()) > 0 {
			must(t, "Deliver", n.Deliver(r.Intn(len(n.Letters())), false), api.OK)
		}
		for site := range sites {
			mustBeEqual(t, tableOf(t, n, site), all)
		}
	}
}

// A diary records what became of each write of a net.
type diary struct {
	writes map[api.Dot]api.Entry
	ended  map[api.Dot]bool   // by anyone who had seen it
	gone   []map[api.Dot]bool // by site: ended there
}

func newDiary(sites int) *diary {
	d := &diary{map[api.Dot]api.Entry{}, map[api.Dot]bool{}, make([]map[api.Dot]bool, sites)}
	for site := range sites {
		d.gone[site] = map[api.Dot]bool{}
	}
	return d
}

// end records that a site replaces or removes what it has of a key.
func (d *diary) end(site int, key string, table sync.Table) {
	for _, e := range table.Entries() {
		if e.Key == key {
			d.ended[e.Dot], d.gone[site][e.Dot] = true, true
		}
	}
}

func (d *diary) check(t *testing.T, n *sync.Net) {
	t.Helper()
	for site := range n.Sites() {
		table := tableOf(t, n, site)
		for _, e := range table.Entries() {
			if d.writes[e.Dot] != e || d.gone[site][e.Dot] || e.Dot.Count > table.Seen(e.Dot.Site) {
				t.Fatalf("site %d has %v", site, e)
			}
		}
		for dot, e := range d.writes {
			if dot.Count <= table.Seen(dot.Site) && !d.ended[dot] && !slices.Contains(table.Entries(), e) {
				t.Fatalf("site %d has lost %v", site, e)
			}
		}
	}
}

func (d *diary) write(t *testing.T, n *sync.Net, site int, key, value string) {
	t.Helper()
	before := tableOf(t, n, site)
	d.end(site, key, before)
	e := entry(key, value, site, before.Seen(site)+1)
	must(t, "Put", n.Put(site, key, value), api.OK)
	d.writes[e.Dot] = e
}

func TestMeaningOfWrites(t *testing.T) {
	r := rand.New(rand.NewSource(151))
	for range 150 {
		sites := 1 + r.Intn(8)
		n, d := mustNew(t, sites), newDiary(sites)
		for range 120 {
			site, key := r.Intn(sites), text(r)
			switch r.Intn(6) {
			case 0, 1:
				d.write(t, n, site, key, text(r))
			case 2:
				d.end(site, key, tableOf(t, n, site))
				must(t, "Remove", n.Remove(site, key), api.OK)
			case 3, 4:
				must(t, "Send", n.Send(site, r.Intn(sites)), api.OK)
			default:
				if count := len(n.Letters()); count > 0 {
					must(t, "Deliver", n.Deliver(r.Intn(count), r.Intn(2) == 0), api.OK)
				}
			}
			d.check(t, n)
		}
	}
}

func TestWritesThatDidNotSeeEachOther(t *testing.T) {
	r := rand.New(rand.NewSource(152))
	for range 200 {
		sites := 2 + r.Intn(7)
		n, m := mustNew(t, sites), &mesh{tables: make([]model, sites)}
		for range r.Intn(100) {
			act(t, r, n, m)
		}
		order := r.Perm(sites)
		one, other, key := order[0], order[1], text(r)
		a := mustPut(t, tableOf(t, n, one), one, key, "one")
		b := mustPut(t, tableOf(t, n, other), other, key, "other")
		both := sync.Merge(a, b).Entries()
		for _, e := range []api.Entry{entry(key, "one", one, a.Seen(one)), entry(key, "other", other, b.Seen(other))} {
			if !slices.Contains(both, e) {
				t.Fatalf("%v is not in %v", e, both)
			}
		}
	}
}

// All functions take all arguments.
func TestAnyArguments(t *testing.T) {
	r := rand.New(rand.NewSource(153))
	wild := append([]int{0, 1, 2, 7, 255, 256, 257}, noSites...)
	long := append([]string{"", strings.Repeat("x", 64), strings.Repeat("x", 65), strings.Repeat("y", 1<<16)}, texts...)
	number := func() int { return wild[r.Intn(len(wild))] }
	words := func() string { return long[r.Intn(len(long))] }
	nets := []*sync.Net{nil, {}, mustNew(t, 1), mustNew(t, 8)}
	var tables []sync.Table
	for range 5000 {
		n := nets[r.Intn(len(nets))]
		n.Put(number(), words(), words())
		n.Remove(number(), words())
		n.Send(number(), number())
		n.Deliver(number(), r.Intn(2) == 0)
		n.Lose(number())
		n.Sites()
		n.Letters()
		n.Settled()
		sync.NewNet(number())
		table, _ := n.Table(number())
		next, _ := table.Put(number(), words(), words())
		tables = append(tables, table, next, table.Remove(words()))
		other := tables[r.Intn(len(tables))]
		tables = append(tables, sync.Merge(next, other))
		sync.Covers(table, other)
		sync.Equal(table, other)
		table.Get(words())
		if got := table.Seen(math.MinInt); got != 0 {
			t.Fatalf("Seen = %d", got)
		}
	}
}
