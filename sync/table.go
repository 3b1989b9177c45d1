// Package sync keeps tables of laboratory results at several sites, which write at the same
// time without asking each other, exchange their tables by letters, and agree in the end.
package sync

import (
	"cmp"
	"slices"
	"strings"

	"acrospire/api"
)

// maxWrites is the greatest number of writes of a site.
const maxWrites = 1 << 40

// Table is a table of results; its zero value is the one without any. Since a table never
// changes, several of them may have the same entries in memory.
type Table struct {
	numbers
	entries []api.Entry
}

// numbers tells of each site how many of its writes were seen.
type numbers [api.MaxSites]int

// Put returns the table in which a site wrote a value, in place of all values of the key.
func (t Table) Put(site int, key, value string) (Table, api.Errno) {
	if !isSite(site) {
		return Table{}, api.ErrReplica
	}
	if !isKey(key) || !isValue(value) {
		return Table{}, api.ErrArg
	}
	if t.numbers[site] == maxWrites || !t.hasRoom(key) {
		return Table{}, api.ErrFull
	}
	next := t.Remove(key)
	next.numbers[site]++
	// Copies, so that a table never keeps a long text of which the key is a part.
	key, value = strings.Clone(key), strings.Clone(value)
	entry := api.Entry{Key: key, Value: value, Dot: api.Dot{Site: site, Count: next.numbers[site]}}
	next.entries = sorted(byKeyAndDot, next.entries, []api.Entry{entry})
	return next, api.OK
}

// Remove returns the table without the values of a key.
func (t Table) Remove(key string) Table {
	return Table{t.numbers, t.only(func(e api.Entry) bool { return e.Key != key })}
}

// Get returns the values of a key, ordered by the dots of their writes.
func (t Table) Get(key string) []string {
	var values []string
	for _, e := range t.entries {
		if e.Key == key {
			values = append(values, e.Value)
		}
	}
	return values
}

// Entries returns all entries, ordered by their keys and then by their dots.
func (t Table) Entries() []api.Entry {
	return slices.Clone(t.entries)
}

// Seen returns how many writes of a site the table has seen.
func (t Table) Seen(site int) int {
	if !isSite(site) {
		return 0
	}
	return t.numbers[site]
}

func isSite(site int) bool {
	return site >= 0 && site < api.MaxSites
}

func isKey(key string) bool {
	return len(key) >= 1 && len(key) <= api.MaxText
}

func isValue(value string) bool {
	return len(value) <= api.MaxText
}

// hasRoom tells whether the key is in the table, or can become one of its keys.
func (t Table) hasRoom(key string) bool {
	return len(t.Get(key)) > 0 || t.keys() < api.MaxKeys
}

// keys returns the number of different keys, which stand side by side.
func (t Table) keys() int {
	count, last := 0, ""
	for _, e := range t.entries {
		if e.Key != last {
			count, last = count+1, e.Key
		}
	}
	return count
}

// only returns those entries that are wanted, in their order.
func (t Table) only(wanted func(e api.Entry) bool) []api.Entry {
	return slices.DeleteFunc(slices.Clone(t.entries), func(e api.Entry) bool { return !wanted(e) })
}

func byKeyAndDot(a, b api.Entry) int {
	return cmp.Or(
		strings.Compare(a.Key, b.Key),
		cmp.Compare(a.Dot.Site, b.Dot.Site),
		cmp.Compare(a.Dot.Count, b.Dot.Count),
	)
}

// sorted returns a new list of all elements of the lists, in the order in which they compare.
func sorted[E any](compare func(a, b E) int, lists ...[]E) []E {
	all := slices.Concat(lists...)
	slices.SortFunc(all, compare)
	return all
}
