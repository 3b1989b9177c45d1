// Package page stores keys with values in a tree of pages on a disk that loses power at any
// time. Changes become durable all at once, and views of earlier states stay readable.
package page

import (
	"maps"
	"slices"

	"acrospire/api"
)

// noFuse is the fuse of a disk that has none, like any other negative number.
const noFuse = -1

// Disk is a disk of pages. NewDisk makes one that is usable.
type Disk struct {
	durable []content
	pending map[int][]content // of each page that has some, the oldest first
	off     bool
	fuse    int    // how many calls are possible yet
	open    *Store // the store on the disk that is not broken, if there is one
}

type content [api.PageSize]byte

// NewDisk returns a disk with so many pages, which contain nothing but 0.
func NewDisk(pages int) (*Disk, api.Errno) {
	if pages < api.MinPages || pages > api.MaxPages {
		return nil, api.ErrArg
	}
	return &Disk{durable: make([]content, pages), pending: map[int][]content{}, fuse: noFuse}, api.OK
}

// Pages returns the number of pages.
func (d *Disk) Pages() int {
	if !d.isUsable() {
		return 0
	}
	return len(d.durable)
}

// Off returns whether the disk is off.
func (d *Disk) Off() bool {
	return d.isUsable() && d.off
}

// Read returns the latest content of a page.
func (d *Disk) Read(page int) (string, api.Errno) {
	if e := d.find(page); e != api.OK {
		return "", e
	}
	latest := d.durable[page]
	if writes := d.pending[page]; len(writes) > 0 {
		latest = writes[len(writes)-1]
	}
	return string(latest[:]), api.OK
}

// Write writes a page. Until the next Sync, a crash may undo that.
func (d *Disk) Write(page int, data string) api.Errno {
	if e := d.find(page); e != api.OK {
		return e
	}
	if len(data) > api.PageSize {
		return api.ErrArg
	}
	if e := d.burn(); e != api.OK {
		return e
	}
	var written content
	copy(written[:], data)
	d.pending[page] = append(d.pending[page], written)
	return api.OK
}

// Sync makes all writes durable.
func (d *Disk) Sync() api.Errno {
	if e := d.check(); e != api.OK {
		return e
	}
	if e := d.burn(); e != api.OK {
		return e
	}
	for page, writes := range d.pending {
		d.durable[page] = writes[len(writes)-1]
	}
	d.pending = map[int][]content{}
	return api.OK
}

// Fuse lets the disk turn itself off instead of the call of Write or Sync that follows so
// many successful ones.
func (d *Disk) Fuse(calls int) api.Errno {
	if e := d.check(); e != api.OK {
		return e
	}
	d.fuse = calls
	return api.OK
}

// Crash lets the disk lose its power, and turns it on again. Of each page with pending
// writes, as many of these become durable as keep says.
func (d *Disk) Crash(keep []int) api.Errno {
	if !d.isUsable() {
		return api.ErrUnusable
	}
	for i, page := range slices.Sorted(maps.Keys(d.pending)) {
		kept := 0
		if len(keep) > 0 {
			kept = min(max(keep[i%len(keep)], 0), len(d.pending[page]))
		}
		if kept > 0 {
			d.durable[page] = d.pending[page][kept-1]
		}
	}
	d.pending = map[int][]content{}
	d.off, d.fuse, d.open = false, noFuse, nil
	return api.OK
}

// Clone returns an independent disk like this one, on which no store is open.
func (d *Disk) Clone() *Disk {
	if !d.isUsable() {
		return nil
	}
	pending := map[int][]content{}
	for page, writes := range d.pending {
		pending[page] = slices.Clone(writes)
	}
	return &Disk{durable: slices.Clone(d.durable), pending: pending, off: d.off, fuse: d.fuse}
}

func (d *Disk) isUsable() bool {
	return d != nil && len(d.durable) > 0
}

// check returns the error of a call for a disk that cannot be used now.
func (d *Disk) check() api.Errno {
	if !d.isUsable() {
		return api.ErrUnusable
	}
	if d.off {
		return api.ErrOff
	}
	return api.OK
}

// find returns the error of a call for a page that does not exist.
func (d *Disk) find(page int) api.Errno {
	if e := d.check(); e != api.OK {
		return e
	}
	if page < 0 || page >= len(d.durable) {
		return api.ErrRange
	}
	return api.OK
}

// burn takes one call off the fuse. If there is none left, the disk turns itself off.
func (d *Disk) burn() api.Errno {
	if d.fuse == 0 {
		d.off = true
		return api.ErrOff
	}
	if d.fuse > 0 {
		d.fuse--
	}
	return api.OK
}
