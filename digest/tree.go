package digest

import (
	"cmp"
	"iter"
	"maps"
	"math/bits"
	"slices"
)

// A tree has the counts of nodes by their numbers, without those that are 0, and their sum.
type tree struct {
	counts map[int]int
	total  int
}

func level(node int) int {
	return bits.Len(uint(node)) - 1
}

func parent(node int) int {
	return node / 2
}

// nodes visits the nodes, in the order in which their numbers compare.
func (t *tree) nodes(compare func(a, b int) int) iter.Seq[Node] {
	return func(yield func(Node) bool) {
		for _, node := range slices.SortedFunc(maps.Keys(t.counts), compare) {
			if !yield(Node{node, t.counts[node]}) {
				return
			}
		}
	}
}

// parents returns the parents of all nodes.
func (t *tree) parents() []int {
	var parents []int
	for node := range t.nodes(cmp.Compare[int]) {
		if node.ID > 1 {
			parents = append(parents, parent(node.ID))
		}
	}
	return slices.Compact(parents)
}
