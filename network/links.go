package network

import (
	"iter"
	"slices"
)

// linkOf returns the pair of two parties, the lesser one first.
func linkOf(a, b int) [2]int { return [2]int{min(a, b), max(a, b)} }

// compareLinks orders pairs by the first number, then by the second one.
func compareLinks(a, b [2]int) int { return slices.Compare(a[:], b[:]) }

// validApart validates the pairs between which the link is cut.
func validApart(l [][2]int) bool {
	for i, pair := range l {
		if !areParties(pair[0], pair[1]) || pair != linkOf(pair[0], pair[1]) {
			return false
		}
		if i > 0 && compareLinks(l[i-1], pair) >= 0 {
			return false
		}
	}
	return true
}

// isApart reports whether a link is one of those that are cut.
func isApart(l [][2]int, link [2]int) bool {
	for _, pair := range l {
		if pair == link {
			return true
		}
	}
	return false
}

// others yields the links that are not this one.
func others(l [][2]int, link [2]int) iter.Seq[[2]int] {
	return func(yield func([2]int) bool) {
		for _, pair := range l {
			if pair != link && !yield(pair) {
				return
			}
		}
	}
}
