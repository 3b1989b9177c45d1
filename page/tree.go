package page

import (
	"iter"
	"slices"
	"sort"
	"strings"

	"acrospire/api"
)

// A node is a leaf or a branch of a tree of keys. Since the keys of a node never change,
// several states have nodes in common.
type node interface {
	// least returns the least key of a node that has keys.
	least() string
	// text returns what is written on the page of the node.
	text() string
}

// A leaf has keys with their values, in ascending order. Only a root has none.
type leaf struct {
	pairs []api.Pair
}

// A branch has at least two links, in the order of their keys.
type branch struct {
	links []link
}

// A link leads to a node. Its page is 0 as long as the node is not on the disk.
type link struct {
	node node
	page int
}

func (n *leaf) least() string {
	return n.pairs[0].Key
}

func (n *branch) least() string {
	return n.links[0].node.least()
}

// find returns where the key is or would be, and whether it is there.
func (n *leaf) find(key string) (int, bool) {
	return slices.BinarySearchFunc(n.pairs, key, func(p api.Pair, key string) int {
		return strings.Compare(p.Key, key)
	})
}

// find returns which link leads to where the key is or would be.
func (n *branch) find(key string) int {
	return sort.Search(len(n.links)-1, func(i int) bool { return key < n.links[i+1].node.least() })
}

// from returns the pairs of a node from the key lo on, in ascending order.
func from(n node, lo string) iter.Seq[api.Pair] {
	return func(yield func(api.Pair) bool) { walk(n, lo, yield) }
}

// walk calls visit for the pairs from the key lo on, until it returns false.
func walk(n node, lo string, visit func(api.Pair) bool) bool {
	switch n := n.(type) {
	case *leaf:
		at, _ := n.find(lo)
		for _, p := range n.pairs[at:] {
			if !visit(p) {
				return false
			}
		}
	case *branch:
		for _, l := range n.links[n.find(lo):] {
			if !walk(l.node, lo, visit) {
				return false
			}
		}
	}
	return true
}

// replaced returns the nodes that take the place of a node if the pairs, at most one, take
// the place of the key: none if nothing is left, and two if all of it does not fit into one.
func replaced(n node, key string, pairs []api.Pair) []node {
	switch n := n.(type) {
	case *leaf:
		at, found := n.find(key)
		rest := n.pairs[at:]
		if found {
			rest = rest[1:]
		}
		return leavesOf(slices.Concat(n.pairs[:at], pairs, rest))
	case *branch:
		at := n.find(key)
		changed := linksTo(replaced(n.links[at].node, key, pairs))
		return branchesOf(slices.Concat(n.links[:at], changed, n.links[at+1:]))
	}
	return nil
}

func leavesOf(pairs []api.Pair) []node {
	var nodes []node
	for _, part := range fitting(pairs, maxPairs) {
		nodes = append(nodes, &leaf{part})
	}
	return nodes
}

// branchesOf makes no branch of a single link, so that a tree has fewer branches than leaves.
func branchesOf(links []link) []node {
	if len(links) == 1 {
		return []node{links[0].node}
	}
	var nodes []node
	for _, part := range fitting(links, maxLinks) {
		nodes = append(nodes, &branch{part})
	}
	return nodes
}

// fitting returns a list as parts that fit into a node, if it has one element too many. The
// first part is not the shorter one, so that keys that come in ascending order fill leaves.
func fitting[E any](list []E, most int) [][]E {
	if len(list) == 0 {
		return nil
	}
	if len(list) <= most {
		return [][]E{list}
	}
	half := (len(list) + 1) / 2
	return [][]E{list[:half:half], list[half:]}
}

func linksTo(nodes []node) []link {
	var links []link
	for _, n := range nodes {
		links = append(links, link{node: n})
	}
	return links
}

// rootOf returns the root of a tree that consists of the nodes.
func rootOf(nodes []node) node {
	switch len(nodes) {
	case 0:
		return &leaf{}
	case 1:
		return nodes[0]
	}
	return &branch{linksTo(nodes)}
}
