package sync

import (
	"slices"

	"acrospire/api"
)

// Net is several sites, each with a table, and the letters that are on their way between
// them. NewNet makes one that is usable.
type Net struct {
	tables  []Table
	letters []letter
}

type letter struct {
	from, to int
	table    Table
}

// NewNet returns a net of so many sites, with empty tables.
func NewNet(sites int) (*Net, api.Errno) {
	if sites < 1 || sites > api.MaxSites {
		return nil, api.ErrArg
	}
	return &Net{tables: make([]Table, sites)}, api.OK
}

// Sites returns the number of sites.
func (n *Net) Sites() int {
	if !n.isUsable() {
		return 0
	}
	return len(n.tables)
}

// Table returns the table of a site.
func (n *Net) Table(site int) (Table, api.Errno) {
	if e := n.find(site); e != api.OK {
		return Table{}, e
	}
	return n.tables[site], api.OK
}

// Put writes a value into the table of a site.
func (n *Net) Put(site int, key, value string) api.Errno {
	if e := n.find(site); e != api.OK {
		return e
	}
	next, e := n.tables[site].Put(site, key, value)
	if e != api.OK {
		return e
	}
	n.tables[site] = next
	return api.OK
}

// Remove removes the values of a key from the table of a site.
func (n *Net) Remove(site int, key string) api.Errno {
	if e := n.find(site); e != api.OK {
		return e
	}
	n.tables[site] = n.tables[site].Remove(key)
	return api.OK
}

// Send puts a letter with the table of a site behind the other letters.
func (n *Net) Send(from, to int) api.Errno {
	if e := n.find(from, to); e != api.OK {
		return e
	}
	if len(n.letters) == api.MaxMail {
		return api.ErrFull
	}
	n.letters = append(n.letters, letter{from, to, n.tables[from]})
	return api.OK
}

// Deliver merges the table of a letter into that of its receiver. A letter that is kept can
// be delivered again.
func (n *Net) Deliver(letter int, keep bool) api.Errno {
	if e := n.findLetter(letter); e != api.OK {
		return e
	}
	delivered := n.letters[letter]
	n.tables[delivered.to] = Merge(n.tables[delivered.to], delivered.table)
	if keep {
		return api.OK
	}
	return n.Lose(letter)
}

// Lose removes a letter.
func (n *Net) Lose(letter int) api.Errno {
	if e := n.findLetter(letter); e != api.OK {
		return e
	}
	n.letters = slices.Delete(n.letters, letter, letter+1)
	return api.OK
}

// Letters returns the sender and the receiver of each letter.
func (n *Net) Letters() [][2]int {
	if !n.isUsable() {
		return nil
	}
	var pairs [][2]int
	for _, l := range n.letters {
		pairs = append(pairs, [2]int{l.from, l.to})
	}
	return pairs
}

// Settled reports whether all sites have the same table.
func (n *Net) Settled() bool {
	if !n.isUsable() {
		return false
	}
	first := n.tables[0]
	return !slices.ContainsFunc(n.tables, func(t Table) bool { return !Equal(t, first) })
}

func (n *Net) isUsable() bool {
	return n != nil && len(n.tables) > 0
}

// find returns the error of a call for sites of which the net does not have one.
func (n *Net) find(sites ...int) api.Errno {
	if !n.isUsable() {
		return api.ErrUnusable
	}
	for _, site := range sites {
		if site < 0 || site >= len(n.tables) {
			return api.ErrReplica
		}
	}
	return api.OK
}

// findLetter returns the error of a call for a letter that does not exist.
func (n *Net) findLetter(letter int) api.Errno {
	if !n.isUsable() {
		return api.ErrUnusable
	}
	if letter < 0 || letter >= len(n.letters) {
		return api.ErrRange
	}
	return api.OK
}
