package page

import (
	"strings"

	"acrospire/api"
)

// A reader reads the nodes of a state. It takes nothing for granted, since there may be
// anything on a disk on which not only stores have written: a tree with a circle would have
// no end, one without order would not find its keys, and one with too many of them, or with
// nodes for nothing, could need more pages than there are.
type reader struct {
	disk *Disk
	seen map[int]bool // pages, none of which belongs to two nodes
	last string       // the last key
	keys int
}

// load returns the state on a disk, or false if there is none.
func load(d *Disk) (state, bool) {
	content, _ := d.Read(rootPage)
	text, ok := strings.CutPrefix(content, mark)
	if !ok {
		return state{}, false
	}
	r := reader{disk: d, seen: map[int]bool{rootPage: true}}
	root, ok := r.read(text)
	if !ok || r.keys > room(d) {
		return state{}, false
	}
	return state{root, r.keys}, true
}

// read returns the node of a text, which is longer than the longest one of a node.
func (r *reader) read(text string) (node, bool) {
	kind, count, elements := text[0], int(text[1]), text[2:]
	switch {
	case kind == leafKind && count <= maxPairs:
		return r.readLeaf(count, elements)
	case kind == branchKind && count >= 2 && count <= maxLinks:
		return r.readBranch(count, elements)
	}
	return nil, false
}

func (r *reader) readLeaf(count int, text string) (node, bool) {
	n := &leaf{}
	for range count {
		key, behind := cutText(text)
		value, rest := cutText(behind)
		if key <= r.last || !isKey(key) || !isValue(value) {
			return nil, false
		}
		n.pairs = append(n.pairs, api.Pair{Key: key, Value: value})
		r.last, r.keys, text = key, r.keys+1, rest
	}
	return n, true
}

func (r *reader) readBranch(count int, text string) (node, bool) {
	n := &branch{}
	for i := range count {
		page := int(text[2*i])<<8 | int(text[2*i+1])
		below, ok := r.readPage(page)
		if !ok {
			return nil, false
		}
		n.links = append(n.links, link{below, page})
	}
	return n, true
}

// readPage returns the node on a page, which has at least one key.
func (r *reader) readPage(page int) (node, bool) {
	text, e := r.disk.Read(page)
	if e != api.OK || r.seen[page] {
		return nil, false
	}
	r.seen[page] = true
	before := r.keys
	n, ok := r.read(text)
	if !ok || r.keys == before {
		return nil, false
	}
	return n, true
}

// cutText returns the text that stands behind its length, and what is behind it. Of a text
// that is too short it returns what there is.
func cutText(text string) (string, string) {
	if text == "" {
		return "", ""
	}
	end := min(1+int(text[0]), len(text))
	return text[1:end], text[end:]
}
