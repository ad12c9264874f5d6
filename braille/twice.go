package braille

import (
	"cmp"
	"iter"
	"maps"
	"slices"
)

// place is where two lists of signs stand that are built sign by sign: the rest by which one of them is ahead of the other one, and which of them is behind.
type place struct {
	rest   string
	behind int
}

// pair is two lists of signs that go on from a place to a common end, and how many cells there are to this end for the list that is behind.
type pair struct {
	cells int
	lists [2][]int
}

func comparePairs(x, y pair) int {
	return cmp.Or(
		cmp.Compare(x.cells, y.cells),
		slices.Compare(x.lists[0], y.lists[0]),
		slices.Compare(x.lists[1], y.lists[1]),
	)
}

// with returns a pair with one more sign before one of its lists, from a place on that is some cells before.
func (p pair) with(sign, list, cells int) pair {
	p.cells += cells
	p.lists[list] = slices.Concat([]int{sign}, p.lists[list])
	return p
}

// pairs yields pairs of lists with the same code, the first of which begins with a lesser sign than the second one. The least of all such pairs is among them.
func pairs(codes []string) iter.Seq[pair] {
	return func(yield func(p pair) bool) {
		best := bestEnds(codes)
		for i, code := range codes {
			for p := range ends(codes, best, place{code, 1}) {
				if i < p.lists[1][0] && !yield(p.with(i, 0, 0)) {
					return
				}
			}
		}
	}
}

// bestEnds returns the least pair of each place from which there is one.
func bestEnds(codes []string) map[place]pair {
	best := map[place]pair{{"", 0}: {}, {"", 1}: {}}
	// What a least pair goes on with after its next sign has fewer cells, so that it is known by then.
	for _, rest := range restsByCells(fewestCellsToEnd(codes))[1:] {
		for behind := range 2 {
			at := place{rest, behind}
			best[at], _ = least(ends(codes, best, at), comparePairs)
		}
	}
	return best
}

// restsByCells returns rests in the order of their fewest cells to an end, the empty one first.
func restsByCells(fewest map[string]int) []string {
	return slices.SortedFunc(maps.Keys(fewest), func(x, y string) int {
		return cmp.Or(cmp.Compare(fewest[x], fewest[y]), cmp.Compare(x, y))
	})
}

// ends yields, for each sign that the list that is behind can have next, the best pair with this sign, as far as it is known how to go on after it.
func ends(codes []string, best map[place]pair, at place) iter.Seq[pair] {
	return func(yield func(p pair) bool) {
		for i, rest := range nextSigns(codes, at.rest) {
			next := place{rest, at.behind}
			if len(codes[i]) > len(at.rest) {
				next.behind = 1 - at.behind
			}
			p, ok := best[next]
			if ok && !yield(p.with(i, at.behind, min(len(codes[i]), len(at.rest)))) {
				return
			}
		}
	}
}

// nextSigns yields the signs that the list that is behind by a rest can have next, and by which rest one of the lists is ahead then.
func nextSigns(codes []string, rest string) iter.Seq2[int, string] {
	return func(yield func(sign int, rest string) bool) {
		for i, code := range codes {
			n := min(len(code), len(rest))
			if code[:n] == rest[:n] && !yield(i, code[n:]+rest[n:]) {
				return
			}
		}
	}
}

// fewestCellsToEnd returns, for each rest by which a list can be ahead so that there is a common end, the fewest cells to this end for the list that is behind.
func fewestCellsToEnd(codes []string) map[string]int {
	fewest := map[string]int{"": 0}
	rests := restsOf(codes)
again:
	for {
		for _, rest := range rests {
			n, ok := least(cellsToEnd(codes, fewest, rest), cmp.Compare)
			if old, known := fewest[rest]; ok && (!known || n < old) {
				fewest[rest] = n
				continue again
			}
		}
		return fewest
	}
}

// cellsToEnd yields, for each sign that the list that is behind can have next, the fewest cells to an end, as far as they are known after it.
func cellsToEnd(codes []string, fewest map[string]int, rest string) iter.Seq[int] {
	return func(yield func(n int) bool) {
		for i, next := range nextSigns(codes, rest) {
			n, known := fewest[next]
			if known && !yield(min(len(codes[i]), len(rest))+n) {
				return
			}
		}
	}
}

// restsOf returns all rests that are not empty by which a list can be ahead.
func restsOf(codes []string) (rests []string) {
	for _, code := range codes {
		for i := 1; i < len(code); i++ {
			rests = append(rests, code[i:])
		}
	}
	slices.Sort(rests)
	return slices.Compact(rests)
}

// least returns the first of the least elements, and whether there is one.
func least[T any](l iter.Seq[T], compare func(x, y T) int) (best T, ok bool) {
	for x := range l {
		if !ok || compare(x, best) < 0 {
			best, ok = x, true
		}
	}
	return best, ok
}
