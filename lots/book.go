// Package lots keeps account of lots of grain and malt: how they were made and used, from
// which origins they come, and which of them can have caused a complaint.
package lots

import (
	"slices"

	"acrospire/api"
)

// Book keeps lots. New makes one that is usable.
type Book struct {
	usable bool
	lots   []record
}

// A record is what a book knows of a lot. An origin has no parts.
type record struct {
	made, left, shipped, discarded int
	parts                          []api.Part
}

func (r record) isOrigin() bool {
	return len(r.parts) == 0
}

// New returns an empty book.
func New() *Book {
	return &Book{usable: true}
}

// Clone returns an independent book with the same lots.
func (b *Book) Clone() *Book {
	if !b.isUsable() {
		return nil
	}
	lots := slices.Clone(b.lots)
	for number, r := range lots {
		lots[number].parts = slices.Clone(r.parts)
	}
	return &Book{usable: true, lots: lots}
}

// Lots returns the number of lots.
func (b *Book) Lots() int {
	if !b.isUsable() {
		return 0
	}
	return len(b.lots)
}

// Mass returns the made, the left, the shipped and the discarded mass of a lot.
func (b *Book) Mass(lot int) (int, int, int, int, api.Errno) {
	if e := b.find(lot); e != api.OK {
		return 0, 0, 0, 0, e
	}
	r := b.lots[lot]
	return r.made, r.left, r.shipped, r.discarded, api.OK
}

// Parts returns the parts of a blended lot, and nothing for an origin.
func (b *Book) Parts(lot int) ([]api.Part, api.Errno) {
	if e := b.find(lot); e != api.OK {
		return nil, e
	}
	return slices.Clone(b.lots[lot].parts), api.OK
}

func (b *Book) isUsable() bool {
	return b != nil && b.usable
}

// find returns the error of a call for a lot that does not exist.
func (b *Book) find(lot int) api.Errno {
	if !b.isUsable() {
		return api.ErrUnusable
	}
	if !b.has(lot) {
		return api.ErrNone
	}
	return api.OK
}

func (b *Book) has(lot int) bool {
	return lot >= 0 && lot < len(b.lots)
}
