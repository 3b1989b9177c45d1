package sync

import (
	"slices"

	"acrospire/api"
)

// Merge returns the table of what was seen by either table. An entry of one of them that the
// other one has seen, but does not have, was replaced or removed there.
func Merge(a, b Table) Table {
	kept := a.only(func(e api.Entry) bool { return b.has(e) || !b.saw(e.Dot) })
	// The entries that both have are among those that were kept already.
	added := b.only(func(e api.Entry) bool { return !a.saw(e.Dot) })
	return Table{a.join(b.numbers), sorted(byKeyAndDot, kept, added)}
}

// Covers reports whether b can add nothing to a, and take nothing away from it.
func Covers(a, b Table) bool {
	return Equal(Merge(a, b), a)
}

// Equal reports whether the tables have the same entries and have seen the same writes.
func Equal(a, b Table) bool {
	return a.numbers == b.numbers && slices.Equal(a.entries, b.entries)
}

// has tells whether the very same entry is in the table: copies of a table in which one site
// writes different values have entries that only have the dot in common.
func (t Table) has(entry api.Entry) bool {
	at, found := slices.BinarySearchFunc(t.entries, entry, byKeyAndDot)
	return found && t.entries[at] == entry
}

func (n numbers) saw(dot api.Dot) bool {
	return dot.Count <= n[dot.Site]
}

// join returns the greater number of each site.
func (n numbers) join(other numbers) numbers {
	for site, number := range other {
		n[site] = max(n[site], number)
	}
	return n
}
