package merkle

import (
	"iter"

	"hansard/api"
)

// step is the place of a way in a row that has more than one digest.
type step struct{ at, size int }

// steps yields the places of the way of a leaf in all rows but the last one.
func steps(n, i int) iter.Seq[step] {
	return func(yield func(step) bool) {
		for at, size := i, n; size > 1; at, size = at/2, (size+1)/2 {
			if !yield(step{at, size}) {
				return
			}
		}
	}
}

// other returns the place of the digest that is hashed together with the one at the place of the step.
func (s step) other() int { return s.at ^ 1 }

// alone reports whether no digest is there to be hashed together with the one at the place of the step.
func (s step) alone() bool { return s.other() == s.size }

// text returns the text of the digest at the place of the step and of the other one, in their order in the row.
func (s step) text(d, other api.Digest) []byte {
	if s.other() < s.at {
		return nodeText(other, d)
	}
	return nodeText(d, other)
}

// isLeaf reports whether a list of n leaves is not too long and has a leaf i.
func isLeaf(n, i int) bool { return n <= api.MaxLeaves && i >= 0 && i < n }

// pathLength returns the number of digests of the path of the leaf i of n leaves.
func pathLength(n, i int) (length int) {
	for s := range steps(n, i) {
		if !s.alone() {
			length++
		}
	}
	return length
}
