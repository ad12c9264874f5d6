package fonts

import "hansard/api"

// lastRune is the greatest number that a font may name. The numbers below it that are no code points may be named, too.
const lastRune = 0x10FFFF

func isRight(f api.Font) bool {
	return areRightGlyphs(f.Glyphs) && isWidth(f.Other) && areRightKerns(f.Kerns)
}

func areRightGlyphs(l []api.Glyph) bool {
	before := -1
	for _, g := range l {
		if g.From <= before || g.From > g.To || g.To > lastRune || !isWidth(g.Width) {
			return false
		}
		before = g.To
	}
	return true
}

func isWidth(w int) bool { return within(w, 0, api.MaxWidth) }

func areRightKerns(l []api.Kern) bool {
	for i, k := range l {
		if !isRightKern(k) || i > 0 && !isBefore(l[i-1], k) {
			return false
		}
	}
	return true
}

func isRightKern(k api.Kern) bool {
	return within(k.A, 0, lastRune) && within(k.B, 0, lastRune) && within(k.By, -api.MaxWidth, api.MaxWidth)
}

func isBefore(x, y api.Kern) bool { return x.A < y.A || x.A == y.A && x.B < y.B }

func within(n, first, last int) bool { return first <= n && n <= last }
