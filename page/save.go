package page

import (
	"acrospire/api"
)

// The page of the root begins with the mark. Each other node is on a page of its own, and is
// written before the root that leads to it: a new state begins with the page of its root.
const (
	rootPage = 0
	mark     = "acrospire"

	// A node has its kind, the number of its elements, and these. A pair is two texts behind
	// their lengths, and a link is the two bytes of its page.
	leafKind   = 'L'
	branchKind = 'B'
	nodeSpace  = api.PageSize - len(mark) - 2
	maxPairs   = nodeSpace / (1 + api.MaxKey + 1 + api.MaxValue)
	maxLinks   = nodeSpace / 2
)

func (n *leaf) text() string {
	text := []byte{leafKind, byte(len(n.pairs))}
	for _, p := range n.pairs {
		text = append(text, byte(len(p.Key)))
		text = append(text, p.Key...)
		text = append(text, byte(len(p.Value)))
		text = append(text, p.Value...)
	}
	return string(text)
}

func (n *branch) text() string {
	text := []byte{branchKind, byte(len(n.links))}
	for _, l := range n.links {
		text = append(text, byte(l.page>>8), byte(l.page))
	}
	return string(text)
}

// write writes the current state. It leaves the pages of the committed one as they are up to
// the last moment.
func (s *Store) write() api.Errno {
	w := writer{s.disk, unused(s.disk, s.committed)}
	if e := w.writeBelow(s.current.root); e != api.OK {
		return e
	}
	if e := s.disk.Sync(); e != api.OK {
		return e
	}
	return writeRoot(s.disk, s.current.root)
}

// writeRoot puts a state in the place of the one on the disk. The nodes below the root are
// durable already.
func writeRoot(d *Disk, root node) api.Errno {
	if e := d.Write(rootPage, mark+root.text()); e != api.OK {
		return e
	}
	return d.Sync()
}

// A writer writes nodes on the free pages of a disk.
type writer struct {
	disk *Disk
	free []int
}

// writeBelow writes those nodes below n that are not on the disk. Only branches that were
// made since the last Commit lead to them, so that no other state has the links that change.
func (w *writer) writeBelow(n node) api.Errno {
	switch n := n.(type) {
	case *branch:
		for i, l := range n.links {
			if l.page != 0 {
				continue
			}
			page, e := w.write(l.node)
			if e != api.OK {
				return e
			}
			n.links[i].page = page
		}
	}
	return api.OK
}

// write writes a node, and all that is below it, and returns its page.
func (w *writer) write(n node) (int, api.Errno) {
	if e := w.writeBelow(n); e != api.OK {
		return 0, e
	}
	page := w.free[0]
	w.free = w.free[1:]
	return page, w.disk.Write(page, n.text())
}

// unused returns the pages of a disk that a state does not need, in ascending order.
func unused(d *Disk, s state) []int {
	used := make([]bool, d.Pages())
	used[rootPage] = true
	markPages(used, s.root)
	var pages []int
	for page, isUsed := range used {
		if !isUsed {
			pages = append(pages, page)
		}
	}
	return pages
}

func markPages(used []bool, n node) {
	switch n := n.(type) {
	case *branch:
		for _, l := range n.links {
			used[l.page] = true
			markPages(used, l.node)
		}
	}
}
