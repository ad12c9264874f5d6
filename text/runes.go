package text

import (
	"iter"
	"unicode/utf8"

	"hansard/api"
)

// isNoRune compares r before anything makes a rune of it, which has only 32 bits.
func isNoRune(r int) bool { return !within(r, 0, 0x10FFFF) || within(r, 0xD800, 0xDFFF) }

// runes yields the code points of s. It panics at a byte that does not belong to one.
func runes(s string) iter.Seq[int] {
	return func(yield func(int) bool) {
		for rest := s; rest != ""; {
			r, length := utf8.DecodeRuneInString(rest)
			// The code point RuneError stands in texts, too, but has three bytes there.
			if r == utf8.RuneError && length == 1 {
				panic(api.ErrRune)
			}
			if !yield(int(r)) {
				return
			}
			rest = rest[length:]
		}
	}
}

// written returns the bytes of code points, one after the other.
func written(l ...int) string {
	b := make([]byte, 0, len(l))
	for _, r := range l {
		b = utf8.AppendRune(b, rune(r))
	}
	return string(b)
}
