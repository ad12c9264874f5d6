package direction_test

import (
	"math"
	"math/rand/v2"
	"slices"
	"strings"
	"testing"

	"hansard/api"
	"hansard/direction"
	"hansard/text"
)

const lastRune = 0x10FFFF

// Letters of Hebrew, and what stands for the kinds in the exhaustive tests: two left letters, a digit, two right letters, a space and another sign.
const (
	alef = 0x5D0
	bet  = 0x5D1
)

var kindsOfRunes = []int{'a', 'z', '1', alef, bet, ' ', '!'}

// isRune reports whether the document calls r a code point.
func isRune(r int) bool { return 0 <= r && r < 0xD800 || 0xDFFF < r && r <= lastRune }

// isRight and isLeft are the document's ranges of the letters (chapter 9); isLeft has the digits, too, as they have the same levels.
func isRight(r int) bool { return 0x590 <= r && r <= 0x7BF }
func isLeft(r int) bool {
	switch {
	case '0' <= r && r <= '9', 'A' <= r && r <= 'Z', 'a' <= r && r <= 'z', 0x370 <= r && r <= 0x4FF:
		return true
	}
	return 0xC0 <= r && r <= 0x24F && r != 0xD7 && r != 0xF7
}

// baseOf returns the base of a line.
func baseOf(right bool) int {
	if right {
		return 1
	}
	return 0
}

// ownLevel returns the level of a code point that does not take it from others, and whether it is one of those.
func ownLevel(r int, right bool) (level int, ok bool) {
	switch {
	case isRight(r):
		return 1, true
	case isLeft(r) && right:
		return 2, true
	case isLeft(r):
		return 0, true
	}
	return 0, false
}

// nearest returns the level of the first code point with one of its own, from i on in steps of by.
func nearest(l []int, i, by int, right bool) (level int, ok bool) {
	for ; i >= 0 && i < len(l); i += by {
		if level, ok = ownLevel(l[i], right); ok {
			return level, true
		}
	}
	return 0, false
}

// levelsOf finds levels without the code that is tested: each code point looks for its neighbours itself.
func levelsOf(l []int, right bool) (levels []int) {
	for i := range l {
		before, ok := nearest(l, i, -1, right)
		after, ok2 := nearest(l, i, 1, right)
		if !ok || !ok2 || before != after {
			before = baseOf(right)
		}
		levels = append(levels, before)
	}
	return levels
}

// orderOf finds an order without the code that is tested. Between two code points of the level 0, the line is cut into
// code points of the level 1 and runs of the level 2, and these pieces are put down from the last one to the first one.
func orderOf(levels []int) (order []int) {
	var pieces [][]int
	putDown := func() {
		for i := range pieces {
			order = append(order, pieces[len(pieces)-1-i]...)
		}
		pieces = nil
	}
	for i, level := range levels {
		switch {
		case level == 0:
			putDown()
			order = append(order, i)
		case level == 2 && i > 0 && levels[i-1] == 2:
			pieces[len(pieces)-1] = append(pieces[len(pieces)-1], i)
		default:
			pieces = append(pieces, []int{i})
		}
	}
	putDown()
	return order
}

// eachList calls f with all lists of at most n elements of all.
func eachList(all []int, n int, f func(l []int)) {
	var more func(l []int)
	more = func(l []int) {
		f(slices.Clone(l))
		if len(l) == n {
			return
		}
		for _, x := range all {
			more(append(slices.Clip(l), x))
		}
	}
	more(nil)
}

// joined returns the text of code points.
func joined(l ...int) string {
	var b strings.Builder
	for _, r := range l {
		b.WriteRune(rune(r))
	}
	return b.String()
}

// repeated returns n times x.
func repeated(x, n int) []int { return slices.Repeat([]int{x}, n) }

// P10.1: the examples of the document, and lines of all kinds.
func TestLevels(t *testing.T) {
	for _, x := range []struct {
		l           []int
		left, right []int // the levels with the base 0, and with the base 1
	}{
		{nil, nil, nil},
		{[]int{'1'}, []int{0}, []int{2}},
		{[]int{'a'}, []int{0}, []int{2}},
		{[]int{alef}, []int{1}, []int{1}},
		{[]int{' '}, []int{0}, []int{1}},
		{[]int{'!'}, []int{0}, []int{1}},
		{[]int{' ', '!', '\n'}, []int{0, 0, 0}, []int{1, 1, 1}},
		{[]int{'a', ' ', alef}, []int{0, 0, 1}, []int{2, 1, 1}},
		{[]int{alef, ' ', 'a'}, []int{1, 0, 0}, []int{1, 1, 2}},
		{[]int{alef, ' ', bet}, []int{1, 1, 1}, []int{1, 1, 1}},
		{[]int{'a', ' ', 'b'}, []int{0, 0, 0}, []int{2, 2, 2}},
		{[]int{'a', ' ', '1'}, []int{0, 0, 0}, []int{2, 2, 2}},
		{[]int{'1', '.', '5'}, []int{0, 0, 0}, []int{2, 2, 2}},
		{[]int{alef, ',', ' ', '-', '\t', bet}, []int{1, 1, 1, 1, 1, 1}, []int{1, 1, 1, 1, 1, 1}},
		{[]int{'a', ',', ' ', '-', '\t', 'b'}, []int{0, 0, 0, 0, 0, 0}, []int{2, 2, 2, 2, 2, 2}},
		{[]int{alef, ',', ' ', '-', '\t', '7'}, []int{1, 0, 0, 0, 0, 0}, []int{1, 1, 1, 1, 1, 2}},
		{[]int{alef, '!'}, []int{1, 0}, []int{1, 1}},
		{[]int{'!', alef}, []int{0, 1}, []int{1, 1}},
		{[]int{'a', '!'}, []int{0, 0}, []int{2, 1}},
		{[]int{'!', 'a'}, []int{0, 0}, []int{1, 2}},
		{[]int{'(', alef, ')', ' ', bet, '?'}, []int{0, 1, 1, 1, 1, 0}, []int{1, 1, 1, 1, 1, 1}},
		{[]int{'a', ' ', alef, ' ', bet, ' ', 'b'}, []int{0, 0, 1, 1, 1, 0, 0}, []int{2, 1, 1, 1, 1, 1, 2}},
		{[]int{0xE9, 0x3B1, 0x416, 0x627, 0x7BF, 0x7C0, 0x4E2D}, []int{0, 0, 0, 1, 1, 0, 0}, []int{2, 2, 2, 1, 1, 1, 1}},
		{[]int{0, lastRune, 0xD7FF, 0xE000}, []int{0, 0, 0, 0}, []int{1, 1, 1, 1}},
		{[]int{'a', 0xD7, 'b', 0xF7, alef}, []int{0, 0, 0, 0, 1}, []int{2, 2, 2, 1, 1}},
	} {
		if levels, e := direction.Levels(x.l, false); e != api.OK || !slices.Equal(levels, x.left) {
			t.Errorf("%x %v %v", x.l, levels, e)
		}
		if levels, e := direction.Levels(x.l, true); e != api.OK || !slices.Equal(levels, x.right) {
			t.Errorf("%x %v %v", x.l, levels, e)
		}
	}
}

// P10.1: every code point alone, and as a gap between others.
func TestLevelsOfEachRune(t *testing.T) {
	for r := range lastRune + 1 {
		if !isRune(r) {
			continue
		}
		for _, right := range []bool{false, true} {
			l := []int{r}
			if r < 0x3000 {
				l = []int{'a', r, 'b', r, alef, r, bet, r, '1', r}
			}
			if levels, e := direction.Levels(l, right); e != api.OK || !slices.Equal(levels, levelsOf(l, right)) {
				t.Fatalf("%x %v %v %v", l, right, levels, e)
			}
		}
	}
}

// P10.1: all short lines.
func TestLevelsOfAllLines(t *testing.T) {
	eachList(kindsOfRunes, 6, func(l []int) {
		for _, right := range []bool{false, true} {
			if levels, e := direction.Levels(l, right); e != api.OK || !slices.Equal(levels, levelsOf(l, right)) {
				t.Fatalf("%x %v %v %v", l, right, levels, e)
			}
		}
	})
}

// P10.1: numbers that are no code points, anywhere in a line.
func TestLevelsWrong(t *testing.T) {
	for _, wrong := range []int{-1, 0xD800, 0xDBFF, 0xDC00, 0xDFFF, lastRune + 1, math.MaxInt, math.MinInt, 1<<32 + 'a', 1<<63 - 1<<32 + alef, -1<<32 + 'a'} {
		for _, l := range [][]int{{wrong}, {wrong, 'a'}, {alef, wrong}, {'a', ' ', wrong, ' ', alef}, {wrong, wrong}} {
			for _, right := range []bool{false, true} {
				if levels, e := direction.Levels(l, right); e != api.ErrRune || len(levels) != 0 {
					t.Errorf("%x %v %v", l, levels, e)
				}
			}
		}
	}
}

// P10.1: a line has at most 4096 code points; this is asked before what they are.
func TestLevelsLimit(t *testing.T) {
	for _, r := range []int{'a', alef, ' ', lastRune} {
		for _, right := range []bool{false, true} {
			want := repeated(levelsOf([]int{r}, right)[0], 4096)
			if levels, e := direction.Levels(repeated(r, 4096), right); e != api.OK || !slices.Equal(levels, want) {
				t.Errorf("%x %v %v", r, len(levels), e)
			}
			if levels, e := direction.Levels(repeated(r, 4097), right); e != api.ErrLimit || len(levels) != 0 {
				t.Errorf("%x %v %v", r, len(levels), e)
			}
		}
	}
	for _, x := range []struct {
		n    int
		want api.Errno
	}{{4096, api.ErrRune}, {4097, api.ErrLimit}, {100000, api.ErrLimit}} {
		for _, at := range []int{0, 4095, x.n - 1} {
			l := repeated('a', x.n)
			l[at] = -1
			if levels, e := direction.Levels(l, true); e != x.want || len(levels) != 0 {
				t.Errorf("%v %v %v %v", x.n, at, len(levels), e)
			}
		}
	}
}

// P10.1: the examples of the document, and lines with runs in runs.
func TestOrder(t *testing.T) {
	for _, x := range []struct{ levels, want []int }{
		{nil, nil},
		{[]int{0}, []int{0}},
		{[]int{1}, []int{0}},
		{[]int{2}, []int{0}},
		{[]int{0, 0}, []int{0, 1}},
		{[]int{1, 1}, []int{1, 0}},
		{[]int{2, 2}, []int{0, 1}},
		{[]int{0, 1, 1, 0}, []int{0, 2, 1, 3}},
		{[]int{1, 2, 2, 1}, []int{3, 1, 2, 0}},
		{[]int{0, 2, 2, 0}, []int{0, 1, 2, 3}},
		{[]int{1, 1, 2, 2, 2}, []int{2, 3, 4, 1, 0}},
		{[]int{2, 2, 1, 1}, []int{3, 2, 0, 1}},
		{[]int{2, 1, 2}, []int{2, 1, 0}},
		{[]int{1, 0, 1, 1}, []int{0, 1, 3, 2}},
		{[]int{2, 2, 1, 2, 2, 2, 0, 1, 2, 2}, []int{3, 4, 5, 2, 0, 1, 6, 8, 9, 7}},
	} {
		if order, e := direction.Order(x.levels); e != api.OK || !slices.Equal(order, x.want) {
			t.Errorf("%v %v %v", x.levels, order, e)
		}
	}
}

// checkOrder compares Order with what the levels say, and checks P10.3 and the third sentence of P10.4.
func checkOrder(t *testing.T, levels []int) {
	t.Helper()
	order, e := direction.Order(levels)
	if e != api.OK || !slices.Equal(order, orderOf(levels)) {
		t.Fatalf("%v %v %v", levels, order, e)
	}
	checkNeighbours(t, levels, order)
	if slices.Contains(levels, 2) {
		return
	}
	for i, x := range order {
		if order[x] != i {
			t.Fatalf("%v %v", levels, order)
		}
	}
}

// checkNeighbours checks that each code point is shown once, and neighbours of one level next to each other.
func checkNeighbours(t *testing.T, levels, order []int) {
	t.Helper()
	places := repeated(-1, len(levels))
	for place, i := range order {
		if i < 0 || i >= len(places) || places[i] >= 0 {
			t.Fatalf("%v %v", levels, order)
		}
		places[i] = place
	}
	if len(order) != len(levels) {
		t.Fatalf("%v %v", levels, order)
	}
	for i := 1; i < len(levels); i++ {
		by := 1
		if levels[i] == 1 {
			by = -1
		}
		if levels[i] == levels[i-1] && places[i] != places[i-1]+by {
			t.Fatalf("%v %v", levels, order)
		}
	}
}

// P10.1, P10.3, P10.4: all short lists of levels.
func TestOrderOfAllLevels(t *testing.T) {
	eachList([]int{0, 1, 2}, 10, func(levels []int) { checkOrder(t, levels) })
}

// anyLevels returns up to n levels in runs that are up to length long.
func anyLevels(r *rand.Rand, n, length int) (levels []int) {
	for n = r.IntN(n + 1); len(levels) < n; {
		levels = append(levels, repeated(r.IntN(3), 1+r.IntN(length))...)
	}
	return levels[:n]
}

// P10.1, P10.3, P10.4: long lists of levels.
func TestOrderOfLongLines(t *testing.T) {
	r := rand.New(rand.NewPCG(10, 1))
	for range 300 {
		checkOrder(t, anyLevels(r, 4096, 1+r.IntN(200)))
	}
	for level := range 3 {
		checkOrder(t, repeated(level, 4096))
	}
}

// P10.1: numbers that are no levels, anywhere in a list.
func TestOrderWrong(t *testing.T) {
	for _, wrong := range []int{3, -1, 4, 5, 100, math.MaxInt, math.MinInt, 1 << 32, 1<<32 + 1, -1 << 32, 256} {
		for _, levels := range [][]int{{wrong}, {wrong, 0}, {2, wrong}, {1, 1, wrong, 1}, {wrong, wrong}} {
			if order, e := direction.Order(levels); e != api.ErrDirection || len(order) != 0 {
				t.Errorf("%v %v %v", levels, order, e)
			}
		}
	}
}

// P10.1: there are at most 4096 levels; this is asked before what they are.
func TestOrderLimit(t *testing.T) {
	for level := range 3 {
		if order, e := direction.Order(repeated(level, 4097)); e != api.ErrLimit || len(order) != 0 {
			t.Errorf("%v %v %v", level, len(order), e)
		}
	}
	for _, x := range []struct {
		n    int
		want api.Errno
	}{{4096, api.ErrDirection}, {4097, api.ErrLimit}, {100000, api.ErrLimit}} {
		for _, at := range []int{0, 4095, x.n - 1} {
			levels := repeated(1, x.n)
			levels[at] = 3
			if order, e := direction.Order(levels); e != x.want || len(order) != 0 {
				t.Errorf("%v %v %v %v", x.n, at, len(order), e)
			}
		}
	}
}

// P10.2: words in both directions, with both bases.
func TestShow(t *testing.T) {
	for _, x := range []struct{ s, left, right string }{
		{"", "", ""},
		{"a", "a", "a"},
		{"abc", "abc", "abc"},
		{"\u05d0", "\u05d0", "\u05d0"},
		{"\u05d0\u05d1\u05d2", "\u05d2\u05d1\u05d0", "\u05d2\u05d1\u05d0"},
		{"ab \u05d0\u05d1\u05d2 cd", "ab \u05d2\u05d1\u05d0 cd", "cd \u05d2\u05d1\u05d0 ab"},
		{"\u05d0\u05d1 12 \u05d2\u05d3", "\u05d1\u05d0 12 \u05d3\u05d2", "\u05d3\u05d2 12 \u05d1\u05d0"},
		{"\u05d0\u05d1 1.5!", "\u05d1\u05d0 1.5!", "!1.5 \u05d1\u05d0"},
		{"a\u05d0 \u05d1b", "a\u05d1 \u05d0b", "b\u05d1 \u05d0a"},
		{"abc!", "abc!", "!abc"},
		{" \t\n", " \t\n", "\n\t "},
		{"e\u0301", "e\u0301", "\u0301e"},
		{"\u20ac\U0001f600\u05d0", "\u20ac\U0001f600\u05d0", "\u05d0\U0001f600\u20ac"},
		{"\u05d0\u20ac\U0001f600\u05d1", "\u05d1\U0001f600\u20ac\u05d0", "\u05d1\U0001f600\u20ac\u05d0"},
	} {
		if got, e := direction.Show(x.s, false); e != api.OK || got != x.left {
			t.Errorf("%q %q %v", x.s, got, e)
		}
		if got, e := direction.Show(x.s, true); e != api.OK || got != x.right {
			t.Errorf("%q %q %v", x.s, got, e)
		}
	}
}

// shown returns what Show must return, without the code that is tested.
func shown(l []int, right bool) string {
	var b strings.Builder
	for _, i := range orderOf(levelsOf(l, right)) {
		b.WriteRune(rune(l[i]))
	}
	return b.String()
}

// P10.2, P10.4: all short lines; what is shown has as many bytes.
func TestShowOfAllLines(t *testing.T) {
	eachList(kindsOfRunes, 6, func(l []int) {
		s := joined(l...)
		for _, right := range []bool{false, true} {
			if got, e := direction.Show(s, right); e != api.OK || got != shown(l, right) || len(got) != len(s) {
				t.Fatalf("%q %v %q %v", s, right, got, e)
			}
		}
	})
}

// anyRunes returns code points of all lengths and kinds, in runs, of at most n bytes.
func anyRunes(r *rand.Rand, n int) (l []int) {
	for bytes := r.IntN(n + 1); ; {
		x := []int{'a' + r.IntN(26), '0' + r.IntN(10), 0x590 + r.IntN(0x230), ' ', '!', r.IntN(0x800), 0x370 + r.IntN(0x190), 0x2000 + r.IntN(0x1000), 0x10000 + r.IntN(0x100000)}[r.IntN(9)]
		for range 1 + r.IntN(4) {
			if bytes -= len(joined(x)); bytes < 0 {
				return l
			}
			l = append(l, x)
		}
	}
}

// P10.1, P10.2, P10.3, P10.4: long lines of all kinds of code points.
func TestLongLines(t *testing.T) {
	r := rand.New(rand.NewPCG(10, 2))
	for i := range 4000 {
		l := anyRunes(r, []int{20, 100, 4096}[min(2, i%20)])
		s, right := joined(l...), r.IntN(2) == 0
		levels, e := direction.Levels(l, right)
		if e != api.OK || !slices.Equal(levels, levelsOf(l, right)) {
			t.Fatalf("%x %v %v %v", l, right, levels, e)
		}
		checkOrder(t, levels)
		got, e := direction.Show(s, right)
		if e != api.OK || got != shown(l, right) || len(got) != len(s) {
			t.Fatalf("%q %v %q %v", s, right, got, e)
		}
	}
}

// P10.2: Show has the errors of text.Runes, in its order.
func TestShowWrong(t *testing.T) {
	long := strings.Repeat("a", 4096)
	for _, x := range []struct {
		s    string
		want api.Errno
	}{
		{long, api.OK},
		{strings.Repeat("\u05d0", 2048), api.OK},
		{long + "a", api.ErrLimit},
		{strings.Repeat("\u05d0", 2049), api.ErrLimit},
		{strings.Repeat("\U0001f600", 1025), api.ErrLimit},
		{long + "\xff", api.ErrLimit},
		{long[:4095] + "\xff", api.ErrRune},
		{"\xff", api.ErrRune},
		{"a\x80", api.ErrRune},
		{"\u05d0\xc0\x80", api.ErrRune},
		{"\xed\xa0\x80", api.ErrRune},
		{"\xf4\x90\x80\x80", api.ErrRune},
		{"\xe2\x82", api.ErrRune},
	} {
		for _, right := range []bool{false, true} {
			if _, e := text.Runes(x.s); e != x.want {
				t.Errorf("%q %v", x.s, e)
			}
			if got, e := direction.Show(x.s, right); e != x.want || (e == api.OK) != (len(got) == len(x.s)) || e != api.OK && got != "" {
				t.Errorf("%q %q %v", x.s, got, e)
			}
		}
	}
}

// P10.4: without right letters everything is shown as it is with the base 0, and without left letters and digits turned around with the base 1.
func TestOneDirection(t *testing.T) {
	r := rand.New(rand.NewPCG(10, 3))
	for range 2000 {
		l := anyRunes(r, 60)
		left := slices.DeleteFunc(slices.Clone(l), isRight)
		if got, e := direction.Show(joined(left...), false); e != api.OK || got != joined(left...) {
			t.Fatalf("%x %q %v", left, got, e)
		}
		right := slices.DeleteFunc(slices.Clone(l), isLeft)
		got, e := direction.Show(joined(right...), true)
		slices.Reverse(right)
		if e != api.OK || got != joined(right...) {
			t.Fatalf("%x %q %v", right, got, e)
		}
	}
}

// P10.1, P10.2: nothing that is passed or was returned is changed (R2), nil is as good as empty (R3), and equal calls return equal results (R6).
func TestPurity(t *testing.T) {
	l := []int{'a', ' ', alef, bet, '!', '1', ' ', 'b', '?'}
	before := slices.Clone(l)
	levels, _ := direction.Levels(l, true)
	levelsBefore := slices.Clone(levels)
	order, _ := direction.Order(levels)
	orderBefore := slices.Clone(order)
	for range 3 {
		again, e := direction.Levels(l, true)
		if e != api.OK || !slices.Equal(again, levelsBefore) {
			t.Errorf("%v %v", again, e)
		}
		orderAgain, e := direction.Order(levels)
		if e != api.OK || !slices.Equal(orderAgain, orderBefore) {
			t.Errorf("%v %v", orderAgain, e)
		}
		direction.Levels(repeated(bet, len(l)), false)
		direction.Order(repeated(1, len(l)))
		direction.Levels([]int{'a', -1}, false)
		direction.Order([]int{1, 3})
	}
	if !slices.Equal(l, before) || !slices.Equal(levels, levelsBefore) || !slices.Equal(order, orderBefore) {
		t.Errorf("%v %v %v", l, levels, order)
	}
	for _, empty := range [][]int{nil, {}} {
		for _, right := range []bool{false, true} {
			if levels, e := direction.Levels(empty, right); e != api.OK || len(levels) != 0 {
				t.Errorf("%v %v", levels, e)
			}
		}
		if order, e := direction.Order(empty); e != api.OK || len(order) != 0 {
			t.Errorf("%v %v", order, e)
		}
	}
}

// P10.1: what stands behind the end of a slice that is passed is neither read nor changed.
func TestCapacity(t *testing.T) {
	l := []int{'a', '!', alef, -1}
	if levels, e := direction.Levels(l[:3], false); e != api.OK || !slices.Equal(levels, []int{0, 0, 1}) {
		t.Errorf("%v %v", levels, e)
	}
	levels := []int{1, 1, 3}
	if order, e := direction.Order(levels[:2]); e != api.OK || !slices.Equal(order, []int{1, 0}) {
		t.Errorf("%v %v", order, e)
	}
	if l[3] != -1 || levels[2] != 3 {
		t.Errorf("%v %v", l, levels)
	}
}
