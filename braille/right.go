package braille

import (
	"hansard/api"
	"hansard/text"
)

// What a sign may have.
const (
	mostRunes = 4  // code points
	mostCells = 4  // cells
	lastCell  = 63 // the greatest cell
)

func isRight(t []api.Sign) bool {
	return len(t) > 0 && all(t, isRightSign) && differ(t, func(s api.Sign) string { return s.Text })
}

func isRightSign(s api.Sign) bool {
	l, e := text.Runes(s.Text)
	return e == api.OK && within(len(l), 1, mostRunes) && within(len(s.Cells), 1, mostCells) && all(s.Cells, isCell)
}

func isCell(n int) bool { return within(n, 0, lastCell) }

func within(n, first, last int) bool { return first <= n && n <= last }

// all reports whether something holds of all elements.
func all[T any](l []T, holds func(x T) bool) bool {
	for _, x := range l {
		if !holds(x) {
			return false
		}
	}
	return true
}

// differ reports whether no two elements have the same key.
func differ[T any, K comparable](l []T, key func(x T) K) bool {
	seen := make(map[K]bool, len(l))
	return all(l, func(x T) bool {
		k := key(x)
		again := seen[k]
		seen[k] = true
		return !again
	})
}
