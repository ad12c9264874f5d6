package fonts

import (
	"iter"
	"sort"

	"hansard/api"
)

// beginnings yields how many code points each beginning of l has, from none to all of them, and its width in a font that is right.
func beginnings(f api.Font, l []int) iter.Seq2[int, int] {
	return func(yield func(n, w int) bool) {
		by := kernsOf(f)
		w := 0
		for n := 0; yield(n, w) && n < len(l); n++ {
			w += widthOf(f, l[n])
			if n > 0 {
				w -= by[[2]int{l[n-1], l[n]}]
			}
		}
	}
}

// kernsOf returns by how much pairs of code points stand nearer to each other; pairs that it does not have stand as they are.
func kernsOf(f api.Font) map[[2]int]int {
	by := make(map[[2]int]int, len(f.Kerns))
	for _, k := range f.Kerns {
		by[[2]int{k.A, k.B}] = k.By
	}
	return by
}

// widthOf returns the width of a code point.
func widthOf(f api.Font, r int) int {
	g, ok := first(f.Glyphs, func(g api.Glyph) bool { return g.To >= r })
	if ok && g.From <= r {
		return g.Width
	}
	return f.Other
}

// first returns the first element of which something holds, and whether there is one. What holds of an element must hold of all behind it.
func first[T any](l []T, holds func(x T) bool) (x T, ok bool) {
	i := sort.Search(len(l), func(i int) bool { return holds(l[i]) })
	if i == len(l) {
		return x, false
	}
	return l[i], true
}
