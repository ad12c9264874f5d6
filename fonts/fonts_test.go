package fonts_test

import (
	"math"
	"math/rand/v2"
	"slices"
	"strings"
	"testing"

	"hansard/api"
	"hansard/fonts"
	"hansard/text"
)

const lastRune = 0x10FFFF

// book is the font of the document's examples.
func book() api.Font {
	return api.Font{
		Glyphs: []api.Glyph{{From: 'a', To: 'z', Width: 10}},
		Other:  3,
		Kerns:  []api.Kern{{A: 'a', B: 'v', By: 2}},
	}
}

// widthOf returns the width of a code point without the code that is tested: every Glyph is asked.
func widthOf(f api.Font, r int) int {
	for _, g := range f.Glyphs {
		if g.From <= r && r <= g.To {
			return g.Width
		}
	}
	return f.Other
}

// byOf returns by how much two neighbours stand nearer to each other: every Kern is asked.
func byOf(f api.Font, a, b int) int {
	for _, k := range f.Kerns {
		if k.A == a && k.B == b {
			return k.By
		}
	}
	return 0
}

// widthsOf returns the widths of all beginnings of l, the empty one first. The widths of code points and those of pairs are added up apart from each other.
func widthsOf(f api.Font, l []int) []int {
	alone, nearer := []int{0}, []int{0, 0}
	for i, r := range l {
		alone = append(alone, alone[i]+widthOf(f, r))
	}
	for i := 1; i < len(l); i++ {
		nearer = append(nearer, nearer[i]+byOf(f, l[i-1], l[i]))
	}
	for i := range alone {
		alone[i] -= nearer[i]
	}
	return alone
}

// fitOf looks for the longest beginning that fits from the end on.
func fitOf(widths []int, room int) (n, w int) {
	for n := len(widths) - 1; n >= 0; n-- {
		if widths[n] <= room {
			return n, widths[n]
		}
	}
	return 0, 0
}

// joined returns the text of code points.
func joined(l ...int) string {
	var b strings.Builder
	for _, r := range l {
		b.WriteRune(rune(r))
	}
	return b.String()
}

// glyphsOf returns n Glyphs of one code point each, with as many others between them, and widths that differ.
func glyphsOf(n int) (l []api.Glyph) {
	for i := range n {
		l = append(l, api.Glyph{From: 2*i + 1, To: 2*i + 1, Width: 1 + i})
	}
	return l
}

// kernsOf returns n Kerns, a hundred of them for each first code point.
func kernsOf(n int) (l []api.Kern) {
	for i := range n {
		l = append(l, api.Kern{A: 'a' + i/100, B: 'a' + i%100, By: i - 500})
	}
	return l
}

// wrongNumbers are numbers that are wrong wherever a font has a number; some of them look right if only their last bits are read.
var wrongNumbers = []int{-4097, lastRune + 1, 1 << 21, 1 << 32, 1<<32 + 'b', 1<<63 - 1<<32 + 'b', -1<<32 + 'b', math.MaxInt, math.MinInt}

// checkAll compares Width and Fit with the second way to measure, in much room and in little, and around every width.
func checkAll(t *testing.T, f api.Font, l []int) {
	t.Helper()
	widths, s := widthsOf(f, l), joined(l...)
	if w, e := fonts.Width(f, s); e != api.OK || w != widths[len(l)] {
		t.Fatalf("%v %x %v %v, not %v", f, l, w, e, widths)
	}
	for _, w := range append(widths[max(0, len(widths)-12):], 0, slices.Min(widths), slices.Max(widths), math.MaxInt-1, math.MinInt+1) {
		for by := range 3 {
			checkFit(t, f, s, widths, w-1+by)
		}
	}
}

func checkFit(t *testing.T, f api.Font, s string, widths []int, room int) {
	t.Helper()
	wantN, wantW := fitOf(widths, room)
	if n, w, e := fonts.Fit(f, s, room); e != api.OK || n != wantN || w != wantW {
		t.Fatalf("%v %q in %v: %v %v %v, not %v %v", f, s, room, n, w, e, wantN, wantW)
	}
}

// P11.1: fonts that are right, at all limits.
func TestCheck(t *testing.T) {
	for i, f := range []api.Font{
		{},
		{Other: 4096},
		book(),
		{Glyphs: []api.Glyph{{From: 0, To: 0, Width: 0}}},
		{Glyphs: []api.Glyph{{From: 0, To: 1114111, Width: 4096}}},
		{Glyphs: []api.Glyph{{From: 1114111, To: 1114111, Width: 1}}, Other: 1},
		{Glyphs: []api.Glyph{{From: 5, To: 9}, {From: 10, To: 10}, {From: 11, To: 20, Width: 7}, {From: 0xD800, To: 0xDFFF}}},
		{Glyphs: []api.Glyph{{From: 'a', To: 'b', Width: 3}, {From: 'c', To: 'd', Width: 3}}, Other: 3},
		{Glyphs: glyphsOf(1024)},
		{Kerns: []api.Kern{{}}},
		{Kerns: []api.Kern{{A: 0, B: 0, By: -4096}, {A: 0, B: 1, By: 4096}, {A: 0, B: 1114111}, {A: 1, B: 0}, {A: 1114111, B: 0}, {A: 1114111, B: 1114111}}},
		{Kerns: []api.Kern{{A: 1, B: 9}, {A: 2, B: 8}, {A: 2, B: 9}, {A: 0xD800, B: 0xDFFF}}},
		{Kerns: kernsOf(1024)},
		{Glyphs: glyphsOf(1024), Kerns: kernsOf(1024), Other: 4096},
	} {
		if e := fonts.Check(f); e != api.OK {
			t.Errorf("%v: %v", i, e)
		}
	}
}

// wrongFonts are fonts that are not right, but are not too long.
func wrongFonts() (l []api.Font) {
	l = []api.Font{
		{Other: -1}, {Other: 4097}, {Other: math.MaxInt}, {Other: math.MinInt}, {Other: 1 << 32}, {Other: -1 << 32},
		{Kerns: []api.Kern{{A: 1, B: 2}, {A: 1, B: 2}}},
		{Kerns: []api.Kern{{A: 1, B: 2, By: 1}, {A: 1, B: 2, By: 2}}},
		{Kerns: []api.Kern{{A: 1, B: 2}, {A: 1, B: 1}}},
		{Kerns: []api.Kern{{A: 2, B: 1}, {A: 1, B: 2}}},
		{Kerns: []api.Kern{{A: 1, B: 1}, {A: 3, B: 0}, {A: 2, B: 9}}},
		{Kerns: []api.Kern{{A: 1, B: lastRune}, {A: 1, B: 0}}},
	}
	for _, glyphs := range [][]api.Glyph{
		{{From: 5, To: 4}}, {{From: -1, To: 4}}, {{From: -1, To: -1}}, {{From: 4, To: lastRune + 1}}, {{From: lastRune + 1, To: lastRune + 1}},
		{{Width: -1}}, {{Width: 4097}},
		{{From: 1, To: 5}, {From: 5, To: 8}},
		{{From: 1, To: 5}, {From: 3, To: 4}},
		{{From: 1, To: 5}, {From: 1, To: 5}},
		{{From: 6, To: 8}, {From: 1, To: 5}},
		{{From: 0, To: 0}, {From: 0, To: 0}},
		{{From: 1, To: 5}, {From: 6, To: 5}, {From: 7, To: 9}},
		{{From: 1, To: 5}, {From: 7, To: 9}, {From: 6, To: 6}},
		{{From: 1, To: 5}, {From: 4, To: 9}, {From: 11, To: 12}},
	} {
		l = append(l, api.Font{Glyphs: glyphs})
	}
	for _, by := range []int{-4097, 4097} {
		l = append(l, api.Font{Kerns: []api.Kern{{By: by}}})
	}
	for _, r := range []int{-1, lastRune + 1} {
		l = append(l, api.Font{Kerns: []api.Kern{{A: r}}}, api.Font{Kerns: []api.Kern{{B: r}}})
	}
	return append(l, wrongInTheMiddle()...)
}

// wrongInTheMiddle returns fonts of which one number is wrong, anywhere in a list.
func wrongInTheMiddle() (l []api.Font) {
	for _, n := range wrongNumbers {
		for i := range 3 {
			for field := range 6 {
				f := api.Font{
					Glyphs: []api.Glyph{{From: 'a', To: 'b', Width: 1}, {From: 'd', To: 'e', Width: 2}, {From: 'g', To: 'h', Width: 3}},
					Kerns:  []api.Kern{{A: 'a', B: 'b', By: 1}, {A: 'd', B: 'e', By: 2}, {A: 'g', B: 'h', By: 3}},
				}
				g, k := &f.Glyphs[i], &f.Kerns[i]
				*[]*int{&g.From, &g.To, &g.Width, &k.A, &k.B, &k.By}[field] = n
				l = append(l, f)
			}
		}
	}
	return l
}

// P11.1, P11.2: fonts that are not right, in all functions; this is asked before the text is.
func TestWrongFonts(t *testing.T) {
	for _, f := range wrongFonts() {
		if e := fonts.Check(f); e != api.ErrFont {
			t.Errorf("%v %v", f, e)
		}
		for _, s := range []string{"", "a", "\xff", strings.Repeat("a", 4097)} {
			if w, e := fonts.Width(f, s); e != api.ErrFont || w != 0 {
				t.Errorf("%v %v %v", f, w, e)
			}
			if n, w, e := fonts.Fit(f, s, 100); e != api.ErrFont || n != 0 || w != 0 {
				t.Errorf("%v %v %v %v", f, n, w, e)
			}
		}
	}
}

// P11.1, P11.2: fonts that are too long, whether they are right or not.
func TestLongFonts(t *testing.T) {
	for i, f := range []api.Font{
		{Glyphs: glyphsOf(1025)},
		{Kerns: kernsOf(1025)},
		{Glyphs: glyphsOf(1025), Kerns: kernsOf(1025)},
		{Glyphs: make([]api.Glyph, 1025)},
		{Kerns: make([]api.Kern, 1025)},
		{Glyphs: glyphsOf(1025), Other: -1},
		{Kerns: kernsOf(1025), Other: -1},
		{Glyphs: []api.Glyph{{From: 5, To: 4}}, Kerns: kernsOf(1025)},
		{Glyphs: glyphsOf(1025), Kerns: []api.Kern{{A: -1}}},
		{Glyphs: glyphsOf(5000)},
		{Kerns: make([]api.Kern, 100000)},
	} {
		if e := fonts.Check(f); e != api.ErrLimit {
			t.Errorf("%v: %v", i, e)
		}
		for _, s := range []string{"", "a", "\xff"} {
			if w, e := fonts.Width(f, s); e != api.ErrLimit || w != 0 {
				t.Errorf("%v: %v %v", i, w, e)
			}
			if n, w, e := fonts.Fit(f, s, 100); e != api.ErrLimit || n != 0 || w != 0 {
				t.Errorf("%v: %v %v %v", i, n, w, e)
			}
		}
	}
	for i, f := range []api.Font{{Glyphs: make([]api.Glyph, 1024)}, {Kerns: make([]api.Kern, 1024)}} {
		if e := fonts.Check(f); e != api.ErrFont {
			t.Errorf("%v: %v", i, e)
		}
	}
}

// P11.1: the examples of the document, and texts in its font.
func TestWidth(t *testing.T) {
	for _, x := range []struct {
		s    string
		want int
	}{
		{"", 0}, {"a", 10}, {"!", 3}, {"av", 18}, {"va", 20}, {"ave!", 31}, {"!eva", 33}, {"avav", 36}, {"aav", 28}, {"avv", 28}, {"a v", 23},
		{"AV", 6}, {"`{", 6}, {"az", 20}, {"\u00e9\u20ac\U0001f600", 9}, {"a\u0301v", 23}, {"\x00", 3}, {"\n", 3}, {"\U0010ffff", 3},
		{strings.Repeat("av", 2048), 36864}, {strings.Repeat("\U0001f600", 1024), 3072},
	} {
		if w, e := fonts.Width(book(), x.s); e != api.OK || w != x.want {
			t.Errorf("%q %v %v", x.s, w, e)
		}
	}
}

// P11.1: Kerns of a letter with itself, of what follows in the other order, and of code points that no Glyph names.
func TestKerns(t *testing.T) {
	f := api.Font{
		Glyphs: []api.Glyph{{From: 'a', To: 'a', Width: 10}, {From: 'b', To: 'c', Width: 1}},
		Other:  5,
		Kerns:  []api.Kern{{A: 0, B: 0, By: 1}, {A: 'a', B: 'a', By: 3}, {A: 'a', B: 'b', By: -20}, {A: 'b', B: 'a', By: 40}, {A: 'z', B: 0x5D0, By: 5}, {A: 0x5D0, B: lastRune, By: -4096}},
	}
	for _, x := range []struct {
		s    string
		want int
	}{
		{"aa", 17}, {"aaa", 24}, {"aaaa", 31}, {"ab", 31}, {"ba", -29}, {"aba", 1}, {"bab", -8}, {"aab", 38}, {"abc", 32}, {"cab", 32}, {"a!b", 16},
		{"\x00", 5}, {"\x00\x00", 9}, {"\x00\x00\x00", 13}, {"z\u05d0", 5}, {"\u05d0z", 10}, {"z\u05d0\U0010ffff", 4106}, {"\u05d0\U0010ffffa", 4116},
		{strings.Repeat("ba", 2048), 2048*11 - 2048*40 + 2047*20},
	} {
		if w, e := fonts.Width(f, x.s); e != api.OK || w != x.want {
			t.Errorf("%q %v %v", x.s, w, e)
		}
	}
	widest := api.Font{Other: 4096, Kerns: []api.Kern{{A: 'a', B: 'a', By: -4096}}}
	if w, e := fonts.Width(widest, strings.Repeat("a", 4096)); e != api.OK || w != 4096*4096+4095*4096 {
		t.Errorf("%v %v", w, e)
	}
	least := api.Font{Kerns: []api.Kern{{A: 'a', B: 'a', By: 4096}}}
	if w, e := fonts.Width(least, strings.Repeat("a", 4096)); e != api.OK || w != -4095*4096 {
		t.Errorf("%v %v", w, e)
	}
}

// P11.1: every code point, among Glyphs that touch, that leave others out, and that have numbers between the code points.
func TestWidthOfEachRune(t *testing.T) {
	f := api.Font{
		Glyphs: []api.Glyph{{From: 0, To: 0, Width: 1}, {From: 1, To: 9, Width: 2}, {From: 11, To: 11, Width: 3}, {From: 'a', To: 'z', Width: 4}, {From: 0x590, To: 0x7BF, Width: 5}, {From: 0xD7FF, To: 0xE000, Width: 6}, {From: 0xFFFF, To: 0x10000, Width: 7}, {From: 0x10FFFE, To: lastRune, Width: 8}},
		Other:  9,
	}
	for r := range lastRune + 1 {
		if 0xD800 <= r && r < 0xE000 {
			continue
		}
		if w, e := fonts.Width(f, joined(r)); e != api.OK || w != widthOf(f, r) {
			t.Fatalf("%x %v %v", r, w, e)
		}
	}
}

// P11.1: every code point in and between the Glyphs of fonts of many lengths.
func TestManyGlyphs(t *testing.T) {
	for _, n := range []int{1, 2, 3, 4, 5, 7, 8, 100, 1023, 1024} {
		f := api.Font{Glyphs: glyphsOf(n), Other: 2000}
		for r := range 2*n + 3 {
			if w, e := fonts.Width(f, joined(r)); e != api.OK || w != widthOf(f, r) {
				t.Fatalf("%v %x %v %v", n, r, w, e)
			}
		}
	}
}

// P11.1: every pair in and beside the Kerns of fonts of many lengths.
func TestManyKerns(t *testing.T) {
	for _, n := range []int{1, 2, 3, 99, 100, 101, 1024} {
		f := api.Font{Other: 7, Kerns: kernsOf(n)}
		for i := range n + 150 {
			l := []int{'a' + i/100, 'a' + i%100}
			if w, e := fonts.Width(f, joined(l...)); e != api.OK || w != widthsOf(f, l)[2] {
				t.Fatalf("%v %x %v %v", n, l, w, e)
			}
		}
	}
}

// P11.2: the examples of the document, and texts in its font.
func TestFit(t *testing.T) {
	for _, x := range []struct {
		s          string
		room, n, w int
	}{
		{"", 0, 0, 0}, {"", -1, 0, 0}, {"", 100, 0, 0}, {"", math.MaxInt, 0, 0}, {"", math.MinInt, 0, 0},
		{"a", -1, 0, 0}, {"a", 0, 0, 0}, {"a", 9, 0, 0}, {"a", 10, 1, 10}, {"a", 11, 1, 10}, {"a", math.MaxInt, 1, 10}, {"a", math.MinInt, 0, 0},
		{"av", 17, 1, 10}, {"av", 18, 2, 18}, {"av", 19, 2, 18},
		{"ave!", 30, 3, 28}, {"ave!", 31, 4, 31}, {"ave!", 27, 2, 18}, {"ave!", 28, 3, 28}, {"ave!", 1 << 40, 4, 31}, {"ave!", 1<<32 + 1, 4, 31}, {"ave!", -1 << 32, 0, 0},
		{"\u00e9\u20ac\U0001f600", 8, 2, 6}, {"\u00e9\u20ac\U0001f600", 9, 3, 9},
		{strings.Repeat("av", 2048), 36864, 4096, 36864}, {strings.Repeat("av", 2048), 36863, 4095, 36856},
	} {
		if n, w, e := fonts.Fit(book(), x.s, x.room); e != api.OK || n != x.n || w != x.w {
			t.Errorf("%q %v: %v %v %v", x.s, x.room, n, w, e)
		}
	}
}

// P11.2: a longer beginning can be narrower than a shorter one, and even than nothing; what is as wide as a shorter one is longer.
func TestFitBack(t *testing.T) {
	f := api.Font{
		Glyphs: []api.Glyph{{From: 'a', To: 'a', Width: 10}, {From: 'b', To: 'b', Width: 1}, {From: 'n', To: 'n', Width: 0}},
		Other:  5,
		Kerns:  []api.Kern{{A: 'a', B: 'b', By: 30}, {A: 'b', B: 'a', By: -30}, {A: 'b', B: 'b', By: 1}, {A: 'b', B: 'c', By: 4}},
	}
	for _, x := range []struct {
		s          string
		room, n, w int
	}{
		{"ab", 5, 2, -19}, {"ab", 10, 2, -19}, {"ab", 0, 2, -19}, {"ab", -1, 2, -19}, {"ab", -19, 2, -19}, {"ab", -20, 0, 0},
		{"abc", -18, 3, -18}, {"abc", -19, 2, -19}, {"abc", -20, 0, 0},
		{"aba", 0, 2, -19}, {"aba", 21, 3, 21}, {"aba", 20, 2, -19}, {"abab", 3, 4, -8}, {"abab", -8, 4, -8}, {"abab", -9, 2, -19}, {"abab", -20, 0, 0},
		{"nnn", 0, 3, 0}, {"nnn", -1, 0, 0}, {"bbb", 1, 3, 1}, {"bbb", 0, 0, 0}, {"abn", -19, 3, -19}, {"anb", 10, 2, 10}, {"ccab", 0, 4, -9}, {"ccab", -10, 0, 0}, {"cc", 4, 0, 0},
	} {
		if n, w, e := fonts.Fit(f, x.s, x.room); e != api.OK || n != x.n || w != x.w {
			t.Errorf("%q %v: %v %v %v", x.s, x.room, n, w, e)
		}
	}
}

// P11.1, P11.2: Width and Fit have the errors of text.Runes, in its order.
func TestWrongTexts(t *testing.T) {
	long := strings.Repeat("a", 4096)
	for _, x := range []struct {
		s    string
		want api.Errno
	}{
		{long, api.OK}, {strings.Repeat("\u05d0", 2048), api.OK}, {strings.Repeat("\U0001f600", 1024), api.OK},
		{long + "a", api.ErrLimit}, {strings.Repeat("\u05d0", 2049), api.ErrLimit}, {strings.Repeat("\U0001f600", 1025), api.ErrLimit}, {long + "\xff", api.ErrLimit},
		{long[:4095] + "\xff", api.ErrRune}, {"\xff", api.ErrRune}, {"a\x80", api.ErrRune}, {"\xc0\x80", api.ErrRune}, {"\xed\xa0\x80", api.ErrRune}, {"\xf4\x90\x80\x80", api.ErrRune}, {"\xe2\x82", api.ErrRune},
	} {
		if _, e := text.Runes(x.s); e != x.want {
			t.Errorf("%q %v", x.s, e)
		}
		if w, e := fonts.Width(book(), x.s); e != x.want || (e == api.OK) != (w != 0) {
			t.Errorf("%q %v %v", x.s, w, e)
		}
		for _, room := range []int{math.MaxInt, 10, 0, -1} {
			if n, w, e := fonts.Fit(book(), x.s, room); e != x.want || e != api.OK && (n != 0 || w != 0) {
				t.Errorf("%q %v %v %v", x.s, n, w, e)
			}
		}
	}
}

// smallFonts calls f with fonts of the letters a, b and c, with all of some widths and Kerns.
func smallFonts(f func(f api.Font)) {
	pairs := []api.Kern{{A: 'a', B: 'a'}, {A: 'a', B: 'b'}, {A: 'b', B: 'a'}, {A: 'b', B: 'c'}}
	bys := []int{math.MinInt, -1, 0, 2, 7} // the first one stands for no Kern
	for i := range 5 * 5 * 5 * 5 {
		font := api.Font{Glyphs: []api.Glyph{{From: 'a', To: 'a', Width: 3}, {From: 'c', To: 'd', Width: 1}}, Other: 2}
		for _, k := range pairs {
			k.By = bys[i%5]
			i /= 5
			if k.By != math.MinInt {
				font.Kerns = append(font.Kerns, k)
			}
		}
		f(font)
	}
}

// eachText calls f with all lists of at most n of the letters a, b and c.
func eachText(n int, f func(l []int)) {
	var more func(l []int)
	more = func(l []int) {
		f(slices.Clone(l))
		if len(l) == n {
			return
		}
		for r := 'a'; r <= 'c'; r++ {
			more(append(slices.Clip(l), int(r)))
		}
	}
	more(nil)
}

// P11.1, P11.2: all short texts in all small fonts, in all rooms.
func TestAllTexts(t *testing.T) {
	smallFonts(func(f api.Font) {
		eachText(4, func(l []int) {
			widths, s := widthsOf(f, l), joined(l...)
			if w, e := fonts.Width(f, s); e != api.OK || w != widths[len(l)] {
				t.Fatalf("%v %q %v %v", f, s, w, e)
			}
			for room := slices.Min(widths) - 1; room <= slices.Max(widths)+1; room++ {
				checkFit(t, f, s, widths, room)
			}
		})
	})
}

// someRunes are code points of which fonts and texts are made, so that they often meet.
var someRunes = []int{0, ' ', '!', 'a', 'b', 'c', 'v', 'z', '{', 0xE9, 0x301, 0x5D0, 0x5D1, 0x20AC, 0xD7FF, 0xE000, 0xFFFF, 0x10000, 0x1F600, lastRune}

func someRune(r *rand.Rand) int { return someRunes[r.IntN(len(someRunes))] }

// anyFont returns a font with Glyphs that begin and end near some code points, and Kerns of these.
func anyFont(r *rand.Rand) (f api.Font) {
	f.Other = r.IntN(4097)
	ends := []int{}
	for range r.IntN(12) {
		x := someRune(r)
		ends = append(ends, x, min(lastRune, x+r.IntN(3)))
	}
	slices.Sort(ends)
	ends = slices.Compact(ends)
	for len(ends) > 1 {
		many := 1 + r.IntN(2)
		f.Glyphs = append(f.Glyphs, api.Glyph{From: ends[0], To: ends[many-1], Width: r.IntN(4097)})
		ends = ends[many:]
	}
	for _, a := range someRunes {
		for _, b := range someRunes {
			if r.IntN(4) == 0 {
				f.Kerns = append(f.Kerns, api.Kern{A: a, B: b, By: r.IntN(8193) - 4096})
			}
		}
	}
	return f
}

// anyText returns at most n code points, most of them some.
func anyText(r *rand.Rand, n int) (l []int) {
	for range r.IntN(n + 1) {
		x := someRune(r)
		if r.IntN(10) == 0 {
			x = 'a' + r.IntN(0x3000)
		}
		l = append(l, x)
	}
	return l
}

// P11.1, P11.2: many texts in many fonts, among them long ones.
func TestAnyFonts(t *testing.T) {
	r := rand.New(rand.NewPCG(11, 1))
	for i := range 3000 {
		f := anyFont(r)
		if e := fonts.Check(f); e != api.OK {
			t.Fatalf("%v %v", f, e)
		}
		checkAll(t, f, anyText(r, []int{1024, 40, 4}[min(2, i%20)]))
	}
}

// width returns what Width returns, for the promises that join several calls.
func width(t *testing.T, f api.Font, l ...int) int {
	t.Helper()
	w, e := fonts.Width(f, joined(l...))
	if e != api.OK {
		t.Fatalf("%v %x %v", f, l, e)
	}
	return w
}

// checkPairs checks that the width of l is determined by its pairs and its code points.
func checkPairs(t *testing.T, f api.Font, l []int) {
	t.Helper()
	want := 0
	for i := 1; i < len(l); i++ {
		want += width(t, f, l[i-1], l[i])
	}
	for i := 1; i < len(l)-1; i++ {
		want -= width(t, f, l[i])
	}
	if w := width(t, f, l...); len(l) > 1 && w != want {
		t.Fatalf("%v %x %v, not %v", f, l, w, want)
	}
}

// P11.3: short texts and others.
func TestPairByPair(t *testing.T) {
	eachText(7, func(l []int) {
		checkPairs(t, api.Font{Other: 5, Kerns: []api.Kern{{A: 'a', B: 'a', By: 9}, {A: 'a', B: 'b', By: -2}, {A: 'c', B: 'b', By: 1}}}, l)
	})
	r := rand.New(rand.NewPCG(11, 2))
	for range 1500 {
		checkPairs(t, anyFont(r), anyText(r, 60))
	}
}

// P11.4: a text is as wide as its two parts, and what the pair where they meet is wider, or narrower, than its code points.
func TestOneAfterTheOther(t *testing.T) {
	r := rand.New(rand.NewPCG(11, 3))
	for range 3000 {
		f, l, m := anyFont(r), anyText(r, 30), anyText(r, 30)
		want := width(t, f, l...) + width(t, f, m...)
		if len(l) > 0 && len(m) > 0 {
			a, b := l[len(l)-1], m[0]
			want += width(t, f, a, b) - width(t, f, a) - width(t, f, b)
		}
		if w := width(t, f, slices.Concat(l, m)...); w != want {
			t.Fatalf("%v %x %x %v, not %v", f, l, m, w, want)
		}
	}
}

// P11.4: what fits is as wide as Width says, and no longer beginning fits.
func TestWhatFits(t *testing.T) {
	r := rand.New(rand.NewPCG(11, 4))
	for range 1500 {
		f, l := anyFont(r), anyText(r, 30)
		room := r.IntN(60000) - 20000
		n, w, e := fonts.Fit(f, joined(l...), room)
		if e != api.OK || n < 0 || n > len(l) || w != width(t, f, l[:n]...) || w > room && (n > 0 || room >= 0) {
			t.Fatalf("%v %x %v: %v %v %v", f, l, room, n, w, e)
		}
		for longer := n + 1; longer <= len(l); longer++ {
			if width(t, f, l[:longer]...) <= room {
				t.Fatalf("%v %x %v: %v, not %v", f, l, room, n, longer)
			}
		}
	}
}

// used returns a font with those Glyphs and Kerns only that a text uses.
func used(f api.Font, l []int) api.Font {
	f.Glyphs = slices.DeleteFunc(slices.Clone(f.Glyphs), func(g api.Glyph) bool {
		return !slices.ContainsFunc(l, func(r int) bool { return g.From <= r && r <= g.To })
	})
	f.Kerns = slices.DeleteFunc(slices.Clone(f.Kerns), func(k api.Kern) bool {
		for i := 1; i < len(l); i++ {
			if l[i-1] == k.A && l[i] == k.B {
				return false
			}
		}
		return true
	})
	return f
}

// P11.4: Glyphs and Kerns that a text does not use do not matter.
func TestUnused(t *testing.T) {
	r := rand.New(rand.NewPCG(11, 5))
	for range 3000 {
		f, l := anyFont(r), anyText(r, 12)
		less, s, room := used(f, l), joined(l...), r.IntN(30000)-8000
		if w := width(t, less, l...); w != width(t, f, l...) {
			t.Fatalf("%v %x %v", f, l, w)
		}
		n, w, e := fonts.Fit(f, s, room)
		n2, w2, e2 := fonts.Fit(less, s, room)
		if n != n2 || w != w2 || e != e2 {
			t.Fatalf("%v %x %v: %v %v %v, %v %v %v", f, l, room, n, w, e, n2, w2, e2)
		}
	}
}

// P11.1, P11.2: a font that is passed is not changed (R2), nil is as good as empty (R3), and equal calls return equal results (R6).
func TestPurity(t *testing.T) {
	f := book()
	glyphs, kerns := slices.Clone(f.Glyphs), slices.Clone(f.Kerns)
	for range 3 {
		if e := fonts.Check(f); e != api.OK {
			t.Error(e)
		}
		if w, e := fonts.Width(f, "ave!"); e != api.OK || w != 31 {
			t.Error(w, e)
		}
		if n, w, e := fonts.Fit(f, "ave!", 30); e != api.OK || n != 3 || w != 28 {
			t.Error(n, w, e)
		}
		fonts.Width(api.Font{Other: 7, Kerns: []api.Kern{{A: 'a', B: 'v', By: 5}, {A: 'v', B: 'e', By: 1}}}, "ave!")
		fonts.Width(f, "\xff")
	}
	if !slices.Equal(f.Glyphs, glyphs) || !slices.Equal(f.Kerns, kerns) || f.Other != 3 {
		t.Error(f)
	}
	for _, f := range []api.Font{{Other: 4}, {Glyphs: []api.Glyph{}, Other: 4, Kerns: []api.Kern{}}} {
		if w, e := fonts.Width(f, "av"); e != api.OK || w != 8 {
			t.Error(w, e)
		}
		if n, w, e := fonts.Fit(f, "av", 7); e != api.OK || n != 1 || w != 4 {
			t.Error(n, w, e)
		}
	}
}

// P11.1, P11.2: what stands behind the end of the lists of a font is not read.
func TestCapacity(t *testing.T) {
	f := book()
	f.Glyphs = append(f.Glyphs, api.Glyph{From: '!', To: 0, Width: -1})[:1]
	f.Kerns = append(f.Kerns, api.Kern{A: 'v', B: 'e', By: 5})[:1]
	if w, e := fonts.Width(f, "ave!"); e != api.OK || w != 31 {
		t.Error(w, e)
	}
}
