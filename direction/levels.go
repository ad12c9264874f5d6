package direction

import (
	"hansard/api"
	"hansard/text"
)

// gap stands for the level of a code point that takes it from its neighbours.
const gap = -1

// kindLevels are the levels of code points, by the base and by their kinds.
var kindLevels = [2][5]int{
	{api.OtherK: gap, api.SpaceK: gap, api.DigitK: 0, api.LeftK: 0, api.RightK: 1},
	{api.OtherK: gap, api.SpaceK: gap, api.DigitK: 2, api.LeftK: 2, api.RightK: 1},
}

func baseOf(right bool) int {
	if right {
		return 1
	}
	return 0
}

// levelsOf returns the levels of numbers that are known to be code points.
func levelsOf(l []int, base int) []int {
	levels := make([]int, len(l))
	for i, r := range l {
		k, _ := text.Kind(r)
		levels[i] = kindLevels[base][k]
	}
	for from, to := range runs(levels, isGap) {
		fill(levels[from:to:to], around(levels, from, to, base))
	}
	return levels
}

func isGap(level int) bool { return level == gap }

func fill(levels []int, level int) {
	for i := range levels {
		levels[i] = level
	}
}

// around returns the level of the gap from one index on, below another one.
func around(levels []int, from, to, base int) int {
	if from > 0 && to < len(levels) && levels[from-1] == levels[to] {
		return levels[to]
	}
	return base
}
