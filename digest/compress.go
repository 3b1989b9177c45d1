package digest

import "acrospire/api"

// rows are inner nodes by their levels.
type rows [api.MaxLevels][]int

func (r *rows) add(nodes ...int) {
	for _, node := range nodes {
		r[level(node)] = append(r[level(node)], node)
	}
}

// compress makes passes until one changes nothing. Counts can climb to the given nodes only,
// as long as no others have climbed.
func (d Digest) compress(nodes []int) {
	var waiting rows
	waiting.add(nodes...)
	for changed := true; changed; {
		waiting, changed = d.pass(waiting)
	}
}

// pass visits the nodes that wait, from the lowest level up to the root. What climbs to a
// node can climb on in the same pass. It leaves room in the children for what is below
// them, so that these wait for the next pass.
func (d Digest) pass(waiting rows) (rows, bool) {
	var next rows
	changed := false
	for depth := d.levels - 1; depth >= 0; depth-- {
		for _, node := range waiting[depth] {
			if !d.tree.climb(node, d.limit()) {
				continue
			}
			changed = true
			if depth > 0 {
				waiting.add(parent(node))
			}
			if depth+1 < d.levels {
				next.add(2*node, 2*node+1)
			}
		}
	}
	return next, changed
}

// climb moves the counts of the children up to the node, if they are not more than the
// limit together with its own count. It tells whether it moved any.
func (t *tree) climb(node, limit int) bool {
	left, right := t.counts[2*node], t.counts[2*node+1]
	sum := t.counts[node] + left + right
	if left+right == 0 || sum > limit {
		return false
	}
	t.counts[node] = sum
	delete(t.counts, 2*node)
	delete(t.counts, 2*node+1)
	return true
}
