package direction

import (
	"iter"
	"slices"
)

// orderOf returns the order of a line with levels from 0 to 2.
func orderOf(levels []int) []int {
	order := make([]int, len(levels))
	for i := range order {
		order[i] = i
	}
	turn(order, levels, 2)
	turn(order, levels, 1)
	return order
}

// turn turns around what stands where the levels of the line are at least as high.
func turn(order, levels []int, least int) {
	for from, to := range runs(levels, func(level int) bool { return level >= least }) {
		slices.Reverse(order[from:to:to])
	}
}

// runs yields the greatest runs of levels that belong to it: the index of the first one of each, and the one behind the last one.
// While a run is used, its own levels may be changed.
func runs(levels []int, belongs func(level int) bool) iter.Seq2[int, int] {
	return func(yield func(from, to int) bool) {
		for to := 0; to < len(levels); to++ {
			from := to
			for to < len(levels) && belongs(levels[to]) {
				to++
			}
			if from < to && !yield(from, to) {
				return
			}
		}
	}
}
