package sync_test

import (
	"cmp"
	"maps"
	"math/rand"
	"slices"
	"strings"
	"testing"

	"acrospire/api"
	"acrospire/sync"
)

// The tests compare with a plain reading of the chapter, by which the entries of a table are
// a set, and the merge is made as its definition says.
type model struct {
	seen    [api.MaxSites]int
	entries map[api.Entry]bool
}

func (m model) put(site int, key, value string) (model, api.Errno) {
	if site < 0 || site > 7 {
		return model{}, api.ErrReplica
	}
	if key == "" || len(key) > 64 || len(value) > 64 {
		return model{}, api.ErrArg
	}
	if keys := m.keys(); len(keys) >= 64 && !keys[key] {
		return model{}, api.ErrFull
	}
	next := m.remove(key)
	next.seen[site]++
	next.entries[entry(key, value, site, next.seen[site])] = true
	return next, api.OK
}

func (m model) remove(key string) model {
	next := model{m.seen, map[api.Entry]bool{}}
	for e := range m.entries {
		if e.Key != key {
			next.entries[e] = true
		}
	}
	return next
}

func (m model) keys() map[string]bool {
	keys := map[string]bool{}
	for e := range m.entries {
		keys[e.Key] = true
	}
	return keys
}

func (m model) saw(d api.Dot) bool {
	return d.Count <= m.seen[d.Site]
}

func (m model) merge(other model) model {
	sum := model{entries: map[api.Entry]bool{}}
	for site := range sum.seen {
		sum.seen[site] = max(m.seen[site], other.seen[site])
	}
	for e := range m.entries {
		if other.entries[e] || !other.saw(e.Dot) {
			sum.entries[e] = true
		}
	}
	for e := range other.entries {
		if m.entries[e] || !m.saw(e.Dot) {
			sum.entries[e] = true
		}
	}
	return sum
}

func (m model) equal(other model) bool {
	return m.seen == other.seen && maps.Equal(m.entries, other.entries)
}

func (m model) list() []api.Entry {
	return slices.SortedFunc(maps.Keys(m.entries), func(a, b api.Entry) int {
		if a.Key != b.Key {
			return strings.Compare(a.Key, b.Key)
		}
		if a.Dot.Site != b.Dot.Site {
			return cmp.Compare(a.Dot.Site, b.Dot.Site)
		}
		return cmp.Compare(a.Dot.Count, b.Dot.Count)
	})
}

func entry(key, value string, site, count int) api.Entry {
	return api.Entry{Key: key, Value: value, Dot: api.Dot{Site: site, Count: count}}
}

// seen makes the numbers of the sites 0, 1 and so on; those of further sites are 0.
func seen(counts ...int) [api.MaxSites]int {
	var numbers [api.MaxSites]int
	copy(numbers[:], counts)
	return numbers
}

func mustPut(t *testing.T, table sync.Table, site int, key, value string) sync.Table {
	t.Helper()
	next, e := table.Put(site, key, value)
	if e != api.OK {
		t.Fatalf("Put(%d, %q, %q) to %v: %d", site, key, value, table.Entries(), e)
	}
	return next
}

func mustRefusePut(t *testing.T, table sync.Table, site int, key, value string, want api.Errno) {
	t.Helper()
	next, e := table.Put(site, key, value)
	if e != want {
		t.Errorf("Put(%d, %q, %q): %d, want %d", site, key, value, e, want)
	}
	mustHave(t, next, seen())
}

// mustHave checks everything that can be seen of a table.
func mustHave(t *testing.T, table sync.Table, numbers [api.MaxSites]int, want ...api.Entry) {
	t.Helper()
	if got := table.Entries(); !slices.Equal(got, want) {
		t.Fatalf("Entries = %v, want %v", got, want)
	}
	for site, number := range numbers {
		if got := table.Seen(site); got != number {
			t.Fatalf("Seen(%d) = %d, want %d", site, got, number)
		}
	}
	values := map[string][]string{"none of them": nil, "": nil}
	for _, e := range want {
		values[e.Key] = append(values[e.Key], e.Value)
	}
	for key, list := range values {
		if got := table.Get(key); !slices.Equal(got, list) {
			t.Fatalf("Get(%q) = %q, want %q", key, got, list)
		}
	}
}

func mustBe(t *testing.T, table sync.Table, m model) {
	t.Helper()
	mustHave(t, table, m.seen, m.list()...)
}

// mustBeEqual checks Equal for two tables that should be equal, and that nothing else tells
// them apart.
func mustBeEqual(t *testing.T, a, b sync.Table) {
	t.Helper()
	if !sync.Equal(a, b) || !sync.Equal(b, a) {
		t.Fatalf("%v is not equal to %v", a.Entries(), b.Entries())
	}
	if !slices.Equal(a.Entries(), b.Entries()) {
		t.Fatalf("%v is equal to %v", a.Entries(), b.Entries())
	}
	for site := range api.MaxSites {
		if a.Seen(site) != b.Seen(site) {
			t.Fatalf("Seen(%d) = %d and %d", site, a.Seen(site), b.Seen(site))
		}
	}
}

// A pair is a table with its model.
type pair struct {
	table sync.Table
	model model
}

var texts = []string{"a", "b", "ab", "k", "\x00", "\xff", "é"}

func text(r *rand.Rand) string {
	return texts[r.Intn(len(texts))]
}

// grow makes tables from the empty one and from one another. One site may write different
// values into copies of one table.
func grow(t *testing.T, r *rand.Rand, size int) []pair {
	t.Helper()
	pairs := []pair{{sync.Table{}, model{}}}
	for len(pairs) < size {
		from, other := pairs[r.Intn(len(pairs))], pairs[r.Intn(len(pairs))]
		key := text(r)
		switch r.Intn(5) {
		case 0, 1:
			site, value := r.Intn(1+r.Intn(8)), text(r)
			m, e := from.model.put(site, key, value)
			if e != api.OK {
				t.Fatalf("the model refuses: %d", e)
			}
			pairs = append(pairs, pair{mustPut(t, from.table, site, key, value), m})
		case 2:
			pairs = append(pairs, pair{from.table.Remove(key), from.model.remove(key)})
		default:
			pairs = append(pairs, pair{sync.Merge(from.table, other.table), from.model.merge(other.model)})
		}
	}
	return pairs
}

// chain makes tables like grow, but no site writes into a table that has not seen all that
// the site wrote before.
func chain(t *testing.T, r *rand.Rand, size int) []pair {
	t.Helper()
	sites := make([]pair, 1+r.Intn(8))
	var pairs []pair
	for len(pairs) < size {
		site, key, value := r.Intn(len(sites)), text(r), text(r)
		now := &sites[site]
		switch r.Intn(4) {
		case 0, 1:
			now.table = mustPut(t, now.table, site, key, value)
			now.model, _ = now.model.put(site, key, value)
		case 2:
			now.table, now.model = now.table.Remove(key), now.model.remove(key)
		default:
			if len(pairs) > 0 {
				other := pairs[r.Intn(len(pairs))]
				now.table, now.model = sync.Merge(now.table, other.table), now.model.merge(other.model)
			}
		}
		pairs = append(pairs, *now)
	}
	return pairs
}

// forests calls a function for many lists of tables of both kinds.
func forests(t *testing.T, seed int64, check func(r *rand.Rand, pairs []pair)) {
	t.Helper()
	r := rand.New(rand.NewSource(seed))
	for range 150 {
		check(r, grow(t, r, 40))
		check(r, chain(t, r, 40))
	}
}
