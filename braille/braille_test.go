package braille_test

import (
	"cmp"
	"fmt"
	"math"
	"math/big"
	"math/rand/v2"
	"slices"
	"strings"
	"testing"

	"hansard/api"
	"hansard/braille"
	"hansard/text"
)

// sign returns a sign.
func sign(s string, cells ...int) api.Sign { return api.Sign{Text: s, Cells: cells} }

// coded returns a table with these cells; the texts of its signs are single letters.
func coded(cells ...[]int) (t []api.Sign) {
	for i, c := range cells {
		t = append(t, sign(string(rune('A'+i)), c...))
	}
	return t
}

// book is the table of the document's example of Encode.
func book() []api.Sign { return []api.Sign{sign("a", 1), sign("b", 3), sign("ab", 7)} }

// many returns n signs with one letter and one cell each.
func many(n int) (t []api.Sign) {
	for i := range n {
		t = append(t, sign(string(rune(0x400+i)), i%64))
	}
	return t
}

// textOf returns the text of a list of signs without the code that is tested.
func textOf(t []api.Sign, signs []int) (s string) {
	for _, i := range signs {
		s += t[i].Text
	}
	return s
}

// cellsOf returns the cells of a list of signs without the code that is tested.
func cellsOf(t []api.Sign, signs []int) (cells []int) {
	for _, i := range signs {
		cells = append(cells, t[i].Cells...)
	}
	return cells
}

// listsWithText finds all lists with some text, in their order.
func listsWithText(t []api.Sign, s string, begun []int, yield func(l []int)) {
	if s == "" {
		yield(begun)
		return
	}
	for i, x := range t {
		if rest, ok := strings.CutPrefix(s, x.Text); ok {
			listsWithText(t, rest, append(begun[:len(begun):len(begun)], i), yield)
		}
	}
}

// listsWithCells finds all lists with some cells, in their order.
func listsWithCells(t []api.Sign, cells []int, begun []int, yield func(l []int)) {
	if len(cells) == 0 {
		yield(begun)
		return
	}
	for i, x := range t {
		if n := len(x.Cells); n <= len(cells) && slices.Equal(cells[:n], x.Cells) {
			listsWithCells(t, cells[n:], append(begun[:len(begun):len(begun)], i), yield)
		}
	}
}

// encodeOf finds what Encode returns without the code that is tested: among all lists.
func encodeOf(t []api.Sign, s string) (signs []int, ok bool) {
	listsWithText(t, s, nil, func(l []int) {
		if !ok || len(cellsOf(t, l)) < len(cellsOf(t, signs)) {
			signs, ok = l, true
		}
	})
	return signs, ok
}

// decodeOf finds what Decode returns without the code that is tested: among all lists.
func decodeOf(t []api.Sign, cells []int) (s string, ok bool) {
	n := 0
	listsWithCells(t, cells, nil, func(l []int) { n, s = n+1, textOf(t, l) })
	if n != 1 {
		return "", false
	}
	return s, true
}

// checkEncode compares Encode with all lists.
func checkEncode(t *testing.T, table []api.Sign, s string) {
	t.Helper()
	want, wantOk := encodeOf(table, s)
	signs, cells, ok, e := braille.Encode(table, s)
	if e != api.OK || ok != wantOk || !slices.Equal(signs, want) || !slices.Equal(cells, cellsOf(table, want)) {
		t.Fatalf("%v %q: %v %v %v %v, not %v %v", table, s, signs, cells, ok, e, want, wantOk)
	}
}

// checkDecode compares Decode with all lists.
func checkDecode(t *testing.T, table []api.Sign, cells []int) {
	t.Helper()
	want, wantOk := decodeOf(table, cells)
	if s, ok, e := braille.Decode(table, cells); e != api.OK || ok != wantOk || s != want {
		t.Fatalf("%v %v: %q %v %v, not %q %v", table, cells, s, ok, e, want, wantOk)
	}
}

// each calls f with all lists of at most n of some elements.
func each[T any](n int, of []T, f func(l []T)) {
	var grow func(l []T)
	grow = func(l []T) {
		f(l)
		if len(l) == n {
			return
		}
		for _, x := range of {
			grow(append(l[:len(l):len(l)], x))
		}
	}
	grow(nil)
}

// wrongSigns are signs that no right table has.
func wrongSigns() (l []api.Sign) {
	l = []api.Sign{
		{}, sign("", 1), sign("x"), sign("abcde", 1), sign("\u00e9\u00e9\u00e9\u00e9\u00e9", 1), sign("x", 1, 2, 3, 4, 5), sign("x", make([]int, 1000)...),
		sign(strings.Repeat("x", 4096), 1), sign(strings.Repeat("x", 4097), 1), sign(strings.Repeat("x", 1<<20), 1),
		sign("\xff", 1), sign("\x80", 1), sign("x\xc3", 1), sign("\xc0\x80", 1), sign("\xed\xa0\x80", 1), sign("\xf4\x90\x80\x80", 1), sign("xyz\xff", 1),
	}
	for _, n := range []int{-1, 64, 65, 128, 255, 256, 257, 1<<8 + 63, 1 << 32, 1<<32 + 1, -1 << 32, -256, -63, math.MaxInt, math.MinInt} {
		l = append(l, sign("x", n), sign("x", n, 1), sign("x", 1, n), sign("x", 1, n, 2, 3), sign("x", 1, 2, 3, n))
	}
	return l
}

// wrongTables are tables that are not right, but do not have too many signs.
func wrongTables() (l [][]api.Sign) {
	l = [][]api.Sign{
		nil, {},
		{sign("a", 1), sign("a", 2)},
		{sign("a", 1), sign("a", 1)},
		{sign("a", 1), sign("b", 2), sign("a", 3)},
		{sign("b", 1), sign("a", 2), sign("a", 3)},
		{sign("\u05d0\u05d1", 1), sign("a", 2), sign("b", 3), sign("\u05d0\u05d1", 4)},
		append(many(63), sign("\u0400", 9)),
		append(many(63), sign("\u043e", 9)),
		make([]api.Sign, 1), make([]api.Sign, 64),
	}
	for _, x := range wrongSigns() {
		l = append(l, []api.Sign{x}, []api.Sign{x, sign("a", 1)}, []api.Sign{sign("a", 1), x}, []api.Sign{sign("a", 1), x, sign("b", 2)}, append(many(63), x))
	}
	return l
}

// P12.1: tables that are right, at all limits.
func TestCheck(t *testing.T) {
	for i, table := range [][]api.Sign{
		{sign("a", 1)},
		{sign("a", 0)}, {sign("a", 63)}, {sign("a", 0, 63, 0, 63)}, {sign("a", 1, 1, 1, 1)},
		{sign("abcd", 1)}, {sign("aaaa", 1, 2)}, {sign("\U0001f600\U0001f600\U0001f600\U0010ffff", 1)}, {sign("\u00e9\u20ac", 1)},
		{sign(" ", 0)}, {sign("\x00", 0)}, {sign("\n", 0)}, {sign(" \t\r\n", 0)}, {sign("\ufffd", 0)},
		{sign("a", 1), sign("b", 1), sign("c", 1)},
		{sign("a", 1), sign("aa", 1), sign("aaa", 1), sign("aaaa", 1), sign("A", 1)},
		{sign("\u00e9", 1), sign("e\u0301", 1)},
		book(), many(1), many(63), many(64),
	} {
		if e := braille.Check(table); e != api.OK {
			t.Errorf("%v: %v", i, e)
		}
	}
}

// P12.1, P12.2: tables that are not right, in all functions; this is asked before the text and the cells are.
func TestWrongTables(t *testing.T) {
	for _, table := range wrongTables() {
		checkErrors(t, table, api.ErrBraille)
	}
}

// P12.1, P12.2: tables with too many signs, whether they are right or not.
func TestLongTables(t *testing.T) {
	for _, table := range [][]api.Sign{
		many(65), many(100), make([]api.Sign, 65), make([]api.Sign, 100000),
		append(many(64), sign("x")), append(many(64), sign("\xff", 1)), append(many(64), sign("\u0400", 1)),
		append([]api.Sign{{}}, many(64)...),
	} {
		checkErrors(t, table, api.ErrLimit)
	}
}

// checkErrors checks that all functions return an error of the table, and nothing else.
func checkErrors(t *testing.T, table []api.Sign, want api.Errno) {
	t.Helper()
	shown := table[:min(3, len(table))]
	if e := braille.Check(table); e != want {
		t.Errorf("%.99v: %v", shown, e)
	}
	for _, s := range []string{"", "a", "x", "\xff", strings.Repeat("a", 4097)} {
		if signs, cells, ok, e := braille.Encode(table, s); e != want || len(signs) != 0 || len(cells) != 0 || ok {
			t.Errorf("%.99v: %v %v %v %v", shown, signs, cells, ok, e)
		}
	}
	for _, cells := range [][]int{nil, {1}, {-1}, {64}, make([]int, 4097)} {
		if s, ok, e := braille.Decode(table, cells); e != want || s != "" || ok {
			t.Errorf("%.99v: %q %v %v", shown, s, ok, e)
		}
	}
	if a, b, ok, e := braille.Twice(table); e != want || len(a) != 0 || len(b) != 0 || ok {
		t.Errorf("%.99v: %v %v %v %v", shown, a, b, ok, e)
	}
}

// P12.1: the examples of the document, and others of which the lists can be seen.
func TestEncode(t *testing.T) {
	short := []api.Sign{sign("aa", 1, 2, 3), sign("a", 4), sign("b", 5), sign("bb", 6, 7), sign("aab", 8, 9)}
	for _, x := range []struct {
		table []api.Sign
		s     string
		signs []int
		ok    bool
	}{
		{book(), "abb", []int{2, 1}, true},
		{book(), "", nil, true}, {book(), "a", []int{0}, true}, {book(), "ba", []int{1, 0}, true}, {book(), "aab", []int{0, 2}, true}, {book(), "abab", []int{2, 2}, true},
		{book(), "c", nil, false}, {book(), "abc", nil, false}, {book(), "cab", nil, false}, {book(), "acb", nil, false}, {book(), "A", nil, false}, {book(), "a ", nil, false},
		{[]api.Sign{sign("a", 1)}, "b", nil, false}, {[]api.Sign{sign("a", 1)}, "", nil, true},
		{short, "aa", []int{1, 1}, true}, {short, "bb", []int{2, 2}, true}, {short, "bbb", []int{2, 2, 2}, true}, {short, "aab", []int{4}, true}, {short, "aaab", []int{1, 4}, true}, {short, "aabb", []int{4, 2}, true},
		{[]api.Sign{sign("bb", 1, 1), sign("b", 2)}, "bbb", []int{0, 1}, true},
		{[]api.Sign{sign("b", 2), sign("bb", 1, 1)}, "bbb", []int{0, 0, 0}, true},
		{[]api.Sign{sign("ab", 1), sign("bc", 1), sign("a", 2), sign("c", 2)}, "abc", []int{0, 3}, true},
		{[]api.Sign{sign("a", 1), sign("bc", 1), sign("ab", 2), sign("c", 2)}, "abc", []int{0, 1}, true},
		{[]api.Sign{sign("ab", 1), sign("bc", 1)}, "abc", nil, false},
		{[]api.Sign{sign("ab", 1), sign("a", 1), sign("bc", 1)}, "abc", []int{1, 2}, true},
		{[]api.Sign{sign("aa", 1)}, "aaa", nil, false}, {[]api.Sign{sign("aa", 1)}, "aaaa", []int{0, 0}, true}, {[]api.Sign{sign("abcd", 1)}, "abc", nil, false},
		{[]api.Sign{sign("\u00e9", 1), sign("\u00e8", 2), sign("\u00e8\u00e9", 3)}, "\u00e9\u00e8\u00e9\u00e8", []int{0, 2, 1}, true},
		{[]api.Sign{sign("\u00e9", 1)}, "e\u0301", nil, false}, {[]api.Sign{sign("\u00e9", 1)}, "\u00e8", nil, false},
		{[]api.Sign{sign(" ", 0), sign("\n", 0), sign("\x00", 0)}, "\x00 \n ", []int{2, 0, 1, 0}, true},
		{[]api.Sign{sign("\ufffd", 1)}, "\ufffd", []int{0}, true},
		{[]api.Sign{sign("a", 9, 9, 9, 9), sign("aaaa", 0)}, "aaaaaaa", []int{0, 0, 0, 1}, true},
		{many(64), "\u043f\u0400\u043f", []int{63, 0, 63}, true}, {many(64), "\u0440", nil, false},
	} {
		signs, cells, ok, e := braille.Encode(x.table, x.s)
		if e != api.OK || ok != x.ok || !slices.Equal(signs, x.signs) || !slices.Equal(cells, cellsOf(x.table, x.signs)) {
			t.Errorf("%v %q: %v %v %v %v", x.table, x.s, signs, cells, ok, e)
		}
	}
	if _, cells, _, _ := braille.Encode(book(), "abb"); !slices.Equal(cells, []int{7, 3}) {
		t.Error(cells)
	}
}

// P12.1: Encode has the errors of text.Runes, in its order, whatever the signs are.
func TestEncodeWrongTexts(t *testing.T) {
	for _, x := range []struct {
		s string
		e api.Errno
	}{
		{"\xff", api.ErrRune}, {"a\xff", api.ErrRune}, {"\xffa", api.ErrRune}, {"a\xc3", api.ErrRune}, {"a\xa9", api.ErrRune}, {"\xed\xa0\x80", api.ErrRune}, {"?\xff", api.ErrRune},
		{strings.Repeat("a", 4095) + "\xff", api.ErrRune},
		{strings.Repeat("a", 4097), api.ErrLimit}, {strings.Repeat("a", 4096) + "\xff", api.ErrLimit}, {strings.Repeat("?", 4097), api.ErrLimit}, {strings.Repeat("\xff", 4097), api.ErrLimit}, {strings.Repeat("a", 1<<20), api.ErrLimit},
	} {
		for _, table := range [][]api.Sign{book(), {sign("a", 1, 2, 3, 4)}, {sign("\u00e9", 1)}} {
			if signs, cells, ok, e := braille.Encode(table, x.s); e != x.e || len(signs) != 0 || len(cells) != 0 || ok {
				t.Errorf("%.9q: %v %v %v %v", x.s, signs, cells, ok, e)
			}
		}
	}
}

// P12.1: what is written has at most 4096 cells; a text that no list has is not too long.
func TestEncodeLimit(t *testing.T) {
	four, three := sign("a", 1, 2, 3, 4), sign("b", 5, 6, 7)
	for i, x := range []struct {
		table []api.Sign
		s     string
		ok    bool
		e     api.Errno
	}{
		{[]api.Sign{four}, strings.Repeat("a", 1024), true, api.OK},
		{[]api.Sign{four}, strings.Repeat("a", 1025), false, api.ErrLimit},
		{[]api.Sign{four}, strings.Repeat("a", 4096), false, api.ErrLimit},
		{[]api.Sign{four}, strings.Repeat("a", 4095) + "b", false, api.OK},
		{[]api.Sign{four}, "b" + strings.Repeat("a", 4095), false, api.OK},
		{[]api.Sign{four, three}, strings.Repeat("a", 1021) + strings.Repeat("b", 4), true, api.OK},
		{[]api.Sign{four, three, sign("c", 9)}, strings.Repeat("a", 1021) + strings.Repeat("b", 4) + "c", false, api.ErrLimit},
		{[]api.Sign{four, three}, strings.Repeat("b", 1365), true, api.OK},
		{[]api.Sign{four, three}, strings.Repeat("b", 1366), false, api.ErrLimit},
		{[]api.Sign{sign("a", 1)}, strings.Repeat("a", 4096), true, api.OK},
		{[]api.Sign{four, sign("aa", 9)}, strings.Repeat("a", 4096), true, api.OK},
		{[]api.Sign{four, sign("aa", 9)}, strings.Repeat("a", 4095), true, api.OK},
		{[]api.Sign{sign("aa", 9, 9), sign("a", 8, 8, 8, 8)}, strings.Repeat("a", 4096), true, api.OK},
		{[]api.Sign{sign("aa", 9, 9), sign("a", 8, 8, 8, 8)}, strings.Repeat("a", 4095), false, api.ErrLimit},
		{[]api.Sign{sign("\u20ac", 1, 2, 3)}, strings.Repeat("\u20ac", 1365), true, api.OK},
		{[]api.Sign{sign("\u20ac", 1, 2, 3, 4)}, strings.Repeat("\u20ac", 1025), false, api.ErrLimit},
	} {
		signs, cells, ok, e := braille.Encode(x.table, x.s)
		if e != x.e || ok != x.ok || !ok && (len(signs) != 0 || len(cells) != 0) {
			t.Errorf("%v: %v %v %v %v", i, len(signs), len(cells), ok, e)
		}
		if ok && (textOf(x.table, signs) != x.s || !slices.Equal(cellsOf(x.table, signs), cells)) {
			t.Errorf("%v: %v %v", i, len(signs), len(cells))
		}
	}
}

// P12.1, P12.3: all short texts in all small tables.
func TestEncodeSmall(t *testing.T) {
	var signs []api.Sign
	each(3, []string{"a", "b"}, func(l []string) {
		for n := range 3 {
			if len(l) > 0 && (len(l) < 3 || n > 0) {
				signs = append(signs, sign(strings.Join(l, ""), make([]int, n+1)...))
			}
		}
	})
	var texts []string
	each(5, []string{"a", "b"}, func(l []string) { texts = append(texts, strings.Join(l, "")) })
	each(3, signs, func(table []api.Sign) {
		if len(table) == 0 || braille.Check(table) != api.OK {
			return
		}
		for _, s := range texts {
			checkEncode(t, table, s)
		}
	})
}

var someRunes = []string{"a", "b", "\u00e9", "\u00e8", "\u05d0", "\u20ac", "\u20ad", "\U0001f600", "\U0001f601", " "}

// anyText returns at most n code points, of the first few of some.
func anyText(r *rand.Rand, n, few int) (s string) {
	for range r.IntN(n + 1) {
		s += someRunes[r.IntN(few)]
	}
	return s
}

// anyTable returns a table with at most n signs, with texts of few code points and few different cells.
func anyTable(r *rand.Rand, n, few int) (t []api.Sign) {
	seen, most := map[string]bool{"": true}, 1+r.IntN(4)
	cells := 1 + r.IntN(few)
	for range 1 + r.IntN(n) {
		x := api.Sign{Text: anyText(r, 4, few)}
		for range 1 + r.IntN(most) {
			x.Cells = append(x.Cells, 63-r.IntN(cells))
		}
		if !seen[x.Text] {
			t = append(t, x)
		}
		seen[x.Text] = true
	}
	if len(t) == 0 {
		return book()
	}
	return t
}

// P12.1, P12.3: many texts in many tables, with code points of all lengths.
func TestEncodeAny(t *testing.T) {
	r := rand.New(rand.NewPCG(12, 1))
	found := 0
	for range 40000 {
		few := 2 + r.IntN(len(someRunes)-1)
		table := anyTable(r, 30, few)
		s := anyText(r, 8, few)
		if r.IntN(3) > 0 {
			s = textOf(table, []int{r.IntN(len(table)), r.IntN(len(table)), r.IntN(len(table))})
		}
		checkEncode(t, table, s)
		if _, ok := encodeOf(table, s); ok {
			found++
		}
	}
	if found < 10000 {
		t.Error(found)
	}
}

// way is a list of signs, with how many cells it has.
type way struct {
	cells int
	signs []int
	ok    bool
}

// bestBeginning finds what Encode returns for long texts without the code that is tested: from the beginning on, the best list of each beginning.
func bestBeginning(t []api.Sign, s string) way {
	best := make([]way, len(s)+1)
	best[0].ok = true
	for at := range s {
		for i, x := range t {
			if w := best[at]; w.ok && strings.HasPrefix(s[at:], x.Text) {
				end := &best[at+len(x.Text)]
				next := way{w.cells + len(x.Cells), append(w.signs[:len(w.signs):len(w.signs)], i), true}
				if !end.ok || cmp.Or(cmp.Compare(next.cells, end.cells), slices.Compare(next.signs, end.signs)) < 0 {
					*end = next
				}
			}
		}
	}
	return best[len(s)]
}

// P12.1, P12.3: long texts, also such that need more than 4096 cells.
func TestEncodeLong(t *testing.T) {
	r := rand.New(rand.NewPCG(12, 2))
	limits := 0
	for i := range 60 {
		table := append([]api.Sign{sign("a", 1, 2, 3, 4), sign("b", 1, 2, 3)}, anyTable(r, 60, 2)...)
		table = table[:2]
		for _, x := range anyTable(r, 60, 2) {
			if x.Text != "a" && x.Text != "b" {
				table = append(table, x)
			}
		}
		if i%5 == 0 {
			table = []api.Sign{table[0], table[1], sign("ab", 1, 2, 3), sign("ba", 0, 0, 0)}
		}
		s := anyText(r, []int{4096, 100, 300}[min(2, i%12)], 2)
		want := bestBeginning(table, s)
		signs, cells, ok, e := braille.Encode(table, s)
		if want.cells > 4096 {
			limits++
			want = way{}
			if e != api.ErrLimit {
				t.Fatal(e)
			}
		} else if e != api.OK {
			t.Fatal(e)
		}
		if ok != want.ok || !slices.Equal(signs, want.signs) || !slices.Equal(cells, cellsOf(table, want.signs)) {
			t.Fatalf("%v %q: %v %v %v", table, s, signs, cells, ok)
		}
	}
	if limits == 0 {
		t.Error("no text needed more than 4096 cells")
	}
}

// P12.2: the examples of the document, and others of which the lists can be seen.
func TestDecode(t *testing.T) {
	two := []api.Sign{sign("a", 1), sign("b", 1, 2)}
	three := []api.Sign{sign("a", 1), sign("b", 1, 2), sign("c", 2)}
	for _, x := range []struct {
		table []api.Sign
		cells []int
		s     string
		ok    bool
	}{
		{two, nil, "", true}, {two, []int{}, "", true}, {two, []int{1}, "a", true}, {two, []int{1, 1, 2}, "ab", true}, {two, []int{1, 2, 1}, "ba", true}, {two, []int{2}, "", false}, {two, []int{1, 2, 2}, "", false}, {two, []int{2, 1}, "", false}, {two, []int{1, 3}, "", false},
		{three, []int{1, 2}, "", false}, {three, []int{2, 1}, "ca", true}, {three, []int{2, 2, 1}, "cca", true}, {three, []int{2, 1, 2}, "", false}, {three, []int{1, 1, 2, 2}, "", false},
		{book(), []int{7, 3}, "abb", true}, {book(), []int{1, 3}, "ab", true}, {book(), []int{1, 3, 0}, "", false},
		{coded([]int{5}, []int{5}), []int{5}, "", false}, {coded([]int{5}, []int{5}), nil, "", true}, {coded([]int{5}, []int{5}, []int{6}), []int{6}, "C", true}, {coded([]int{5}, []int{5}, []int{6}), []int{6, 5}, "", false}, {coded([]int{5}, []int{5}, []int{6}), []int{5, 6}, "", false},
		{coded([]int{5}, []int{5}, []int{6}), []int{5, 7}, "", false},
		{[]api.Sign{sign("a", 1), sign("b", 2), sign("ab", 1, 2)}, []int{1, 2}, "", false}, {[]api.Sign{sign("a", 1), sign("b", 2), sign("ab", 1, 2)}, []int{2, 1, 1}, "baa", true},
		{[]api.Sign{sign("a", 1), sign("aa", 1, 1)}, []int{1}, "a", true}, {[]api.Sign{sign("a", 1), sign("aa", 1, 1)}, []int{1, 1}, "", false},
		{[]api.Sign{sign("a", 0), sign("b", 63)}, []int{63, 0, 0}, "baa", true},
		{[]api.Sign{sign("\u00e9", 1), sign(" \n", 2, 0), sign("\U0001f600\u05d0", 3, 3, 3, 3)}, []int{1, 3, 3, 3, 3, 2, 0}, "\u00e9\U0001f600\u05d0 \n", true},
		{coded([]int{1, 2, 3, 4}), []int{1, 2, 3}, "", false}, {coded([]int{1, 2, 3, 4}), []int{1, 2, 3, 4, 1, 2, 3, 4}, "AA", true}, {coded([]int{1, 2, 3, 4}), []int{2, 3, 4}, "", false},
		{many(64), []int{63, 0, 32}, "\u043f\u0400\u0420", true},
	} {
		if s, ok, e := braille.Decode(x.table, x.cells); e != api.OK || ok != x.ok || s != x.s {
			t.Errorf("%v %v: %q %v %v", x.table, x.cells, s, ok, e)
		}
	}
}

// P12.2: Decode asks how many cells there are before it asks what they are.
func TestDecodeWrongCells(t *testing.T) {
	ones := slices.Repeat([]int{1}, 4097)
	for _, n := range []int{-1, 64, 65, 128, 255, 256, 257, 256 + 3, 1<<16 + 1, 1 << 32, 1<<32 + 1, -255, math.MaxInt, math.MinInt, math.MinInt + 1} {
		for _, x := range []struct {
			cells []int
			e     api.Errno
		}{
			{[]int{n}, api.ErrBraille}, {[]int{n, 1}, api.ErrBraille}, {[]int{1, n}, api.ErrBraille}, {[]int{1, n, 3}, api.ErrBraille}, {[]int{9, n}, api.ErrBraille}, {[]int{9, 1, n}, api.ErrBraille},
			{append(ones[:4095:4095], n), api.ErrBraille}, {append([]int{n}, ones[:4095]...), api.ErrBraille},
			{append(ones[:4096:4096], n), api.ErrLimit}, {append([]int{n}, ones[:4096]...), api.ErrLimit}, {slices.Repeat([]int{n}, 5000), api.ErrLimit},
		} {
			for _, table := range [][]api.Sign{book(), coded([]int{1}, []int{1})} {
				if s, ok, e := braille.Decode(table, x.cells); e != x.e || s != "" || ok {
					t.Errorf("%v of %v: %q %v %v", n, len(x.cells), s, ok, e)
				}
			}
		}
	}
	for n := range 64 {
		if s, ok, e := braille.Decode(book(), []int{n}); e != api.OK || ok != (n == 1 || n == 3 || n == 7) || ok != (s != "") {
			t.Errorf("%v: %q %v %v", n, s, ok, e)
		}
	}
}

// P12.2: at most 4096 cells are read, and texts of at most 4096 bytes; cells that are not read in one way are not too long.
func TestDecodeLimit(t *testing.T) {
	long := sign("\U0001f600\U0001f600\U0001f600\U0001f601", 1)
	twice := []api.Sign{long, sign("b", 2), sign("c", 2), sign("d", 1, 2)}
	for i, x := range []struct {
		table []api.Sign
		cells []int
		ok    bool
		e     api.Errno
	}{
		{book(), slices.Repeat([]int{1}, 4096), true, api.OK},
		{book(), slices.Repeat([]int{1}, 4097), false, api.ErrLimit},
		{book(), slices.Repeat([]int{9}, 4096), false, api.OK},
		{book(), slices.Repeat([]int{9}, 4097), false, api.ErrLimit},
		{book(), slices.Repeat([]int{7}, 2048), true, api.OK},
		{book(), slices.Repeat([]int{7}, 2049), false, api.ErrLimit},
		{book(), append(slices.Repeat([]int{7}, 2047), 1, 3), true, api.OK},
		{book(), append(slices.Repeat([]int{7}, 2048), 1), false, api.ErrLimit},
		{book(), append(slices.Repeat([]int{7}, 4095), 0), false, api.OK},
		{[]api.Sign{long}, slices.Repeat([]int{1}, 256), true, api.OK},
		{[]api.Sign{long}, slices.Repeat([]int{1}, 257), false, api.ErrLimit},
		{[]api.Sign{long}, slices.Repeat([]int{1}, 4096), false, api.ErrLimit},
		{[]api.Sign{long}, slices.Repeat([]int{1}, 4097), false, api.ErrLimit},
		{[]api.Sign{long, sign("a", 2)}, append(slices.Repeat([]int{1}, 256), 2), false, api.ErrLimit},
		{[]api.Sign{long, sign("a", 2)}, append([]int{2}, slices.Repeat([]int{1}, 255)...), true, api.OK},
		{twice, append(slices.Repeat([]int{1}, 4095), 2), false, api.OK},
		{twice, append([]int{2}, slices.Repeat([]int{1}, 4095)...), false, api.OK},
		{twice, append(slices.Repeat([]int{1}, 4000), 3), false, api.OK},
		{coded([]int{1}, []int{1, 1}), slices.Repeat([]int{1}, 4096), false, api.OK},
		{coded([]int{1}, []int{1}), slices.Repeat([]int{1}, 4096), false, api.OK},
		{[]api.Sign{sign("\u20ac", 1)}, slices.Repeat([]int{1}, 1365), true, api.OK},
		{[]api.Sign{sign("\u20ac", 1)}, slices.Repeat([]int{1}, 1366), false, api.ErrLimit},
	} {
		s, ok, e := braille.Decode(x.table, x.cells)
		if e != x.e || ok != x.ok || ok != (s != "") {
			t.Errorf("%v: %v %v %v", i, len(s), ok, e)
		}
		if want, _ := readFromBeginning(x.table, x.cells); ok && s != want {
			t.Errorf("%v: %v", i, len(s))
		}
	}
}

// smallCodes are all lists of 1 to n of the cells 0 and 1.
func smallCodes(n int) (codes [][]int) {
	each(n, []int{0, 1}, func(l []int) {
		if len(l) > 0 {
			codes = append(codes, l)
		}
	})
	return codes
}

// P12.2: all cells with at most two different numbers in all small tables.
func TestDecodeSmall(t *testing.T) {
	codes := append(smallCodes(6), nil)
	each(3, smallCodes(3), func(l [][]int) {
		if len(l) > 0 {
			for _, cells := range codes {
				checkDecode(t, coded(l...), cells)
			}
		}
	})
}

// reading is what is known of the lists with some cells: how many there are, and the text of the last one that was found.
type reading struct {
	n *big.Int
	s string
}

// readFromBeginning finds what Decode returns for many cells without the code that is tested: it counts the lists of each beginning.
func readFromBeginning(t []api.Sign, cells []int) (s string, ok bool) {
	read := make([]reading, len(cells)+1)
	for i := range read {
		read[i].n = new(big.Int)
	}
	read[0].n.SetInt64(1)
	for at := range cells {
		for _, x := range t {
			if end := at + len(x.Cells); read[at].n.Sign() > 0 && end <= len(cells) && slices.Equal(cells[at:end], x.Cells) {
				read[end].n.Add(read[end].n, read[at].n)
				read[end].s = read[at].s + x.Text
			}
		}
	}
	last := read[len(cells)]
	if !last.n.IsInt64() || last.n.Int64() != 1 {
		return "", false
	}
	return last.s, true
}

// anyCells returns the cells of at most n signs of a table, of which some may be replaced.
func anyCells(r *rand.Rand, table []api.Sign, n, few int) (cells []int) {
	for range r.IntN(n + 1) {
		cells = append(cells, table[r.IntN(len(table))].Cells...)
	}
	if len(cells) > 0 && r.IntN(3) == 0 {
		cells[r.IntN(len(cells))] = 63 - r.IntN(few)
	}
	return cells
}

// P12.2: few cells in many tables.
func TestDecodeAny(t *testing.T) {
	r := rand.New(rand.NewPCG(12, 3))
	found := 0
	for range 40000 {
		few := 2 + r.IntN(len(someRunes)-1)
		table := anyTable(r, 12, few)
		cells := anyCells(r, table, 4, few)
		cells = cells[:min(5, len(cells))]
		checkDecode(t, table, cells)
		if _, ok := decodeOf(table, cells); ok {
			found++
		}
	}
	if found < 5000 {
		t.Error(found)
	}
}

// P12.2: many cells in many tables, which are read in one way, in none, or in more ways than numbers can count.
func TestDecodeLong(t *testing.T) {
	r := rand.New(rand.NewPCG(12, 9))
	found := 0
	for i := range 3000 {
		few := 2 + r.IntN(len(someRunes)-1)
		table := anyTable(r, 12, few)
		cells := anyCells(r, table, []int{1000, 30}[min(1, i%20)], few)
		want, wantOk := readFromBeginning(table, cells)
		if len(want) > 4096 {
			continue
		}
		if s, ok, e := braille.Decode(table, cells); e != api.OK || ok != wantOk || s != want {
			t.Fatalf("%v %v: %q %v %v, not %q %v", table, cells, s, ok, e, want, wantOk)
		}
		if wantOk {
			found++
		}
	}
	if found < 300 {
		t.Error(found)
	}
}

// P12.2: cells that can be read in 2^n ways, and in one more, for which a number of 64 bits or fewer could stand that says one way or none.
func TestDecodeInVeryManyWays(t *testing.T) {
	oneMore := coded([]int{5, 6}, []int{5, 6}, []int{7}, []int{8}, []int{7, 5}, []int{6, 5}, []int{6, 8})
	for n := 1; n < 200; n++ {
		cells := append(slices.Repeat([]int{5, 6}, n), 8)
		if s, ok, e := braille.Decode(oneMore, cells); e != api.OK || ok || s != "" {
			t.Fatal(n, s, ok, e)
		}
		if s, ok, e := braille.Decode(oneMore, slices.Concat([]int{7}, cells)); e != api.OK || ok || s != "" {
			t.Fatal(n, s, ok, e)
		}
	}
	for n := 1; n <= 4096; n++ {
		if s, ok, e := braille.Decode(coded([]int{1}, []int{1, 1}, []int{2}), slices.Repeat([]int{1}, n)); e != api.OK || ok != (n == 1) || ok != (s == "A") {
			t.Fatal(n, s, ok, e)
		}
	}
}

// state is where two lists of signs stand that are built from their beginnings on: which cells one of them has more, and which of them.
type state struct {
	more  string
	ahead int
}

// both are two lists of signs.
type both [2][]int

// before reports whether lists come before others: the first ones are compared first.
func (x both) before(y both) bool {
	return cmp.Or(slices.Compare(x[0], y[0]), slices.Compare(x[1], y[1])) < 0
}

// keyOf returns cells as a string.
func keyOf(cells []int) (s string) {
	for _, c := range cells {
		s += string(rune(c))
	}
	return s
}

// twiceOf finds what Twice returns without the code that is tested: from the beginning on, for one number of cells after the other,
// the best lists of which the shorter one has so many cells, for each state. The shortest pair never has the same cells more a second time,
// and the shorter list has at most three cells more when they change, so that mostCellsOf tells when to give up.
func twiceOf(t []api.Sign) (a, b []int, ok bool) {
	var codes []string
	for _, x := range t {
		codes = append(codes, keyOf(x.Cells))
	}
	most := mostCellsOf(codes)
	levels := make([]map[state]both, most+5)
	for i := range levels {
		levels[i] = map[state]both{}
	}
	put := func(cells int, s state, l both) {
		if s.more == "" {
			s.ahead = 0
		}
		if old, known := levels[cells][s]; !known || l.before(old) {
			levels[cells][s] = l
		}
	}
	meet := func(cells int, x, y string, list int, l both) {
		if more, shorter := strings.CutPrefix(y, x); shorter {
			put(cells+len(x), state{more, list}, l)
		} else if more, shorter := strings.CutPrefix(x, y); shorter {
			put(cells+len(y), state{more, 1 - list}, l)
		}
	}
	for i := range codes {
		for j := i + 1; j < len(codes); j++ {
			meet(0, codes[i], codes[j], 1, both{{i}, {j}})
		}
	}
	for cells := range most + 1 {
		if l, found := levels[cells][state{}]; found {
			return l[0], l[1], true
		}
		for s, l := range levels[cells] {
			for i, code := range codes {
				behind := 1 - s.ahead
				next := l
				next[behind] = append(l[behind][:len(l[behind]):len(l[behind])], i)
				meet(cells, s.more, code, behind, next)
			}
		}
	}
	return nil, nil, false
}

// mostCellsOf returns a number of cells that the shortest pair does not exceed.
func mostCellsOf(codes []string) int {
	rests := map[string]bool{}
	for _, code := range codes {
		for i := range code {
			rests[code[i:]] = true
		}
	}
	return 4 + 3*len(rests)
}

// isClear reports whether no two lists have the same cells, in the way of Sardinas and Patterson: as sets of rests, without numbers.
func isClear(t []api.Sign) bool {
	var codes []string
	for _, x := range t {
		codes = append(codes, keyOf(x.Cells))
	}
	rests := map[string]bool{}
	add := func(x, y string) {
		if rest, ok := strings.CutPrefix(y, x); ok {
			rests[rest] = true
		}
	}
	for i, x := range codes {
		for j, y := range codes {
			if i != j {
				add(x, y)
			}
		}
	}
	for before := -1; before < len(rests); {
		before = len(rests)
		for rest := range rests {
			if rest == "" {
				return false
			}
			for _, code := range codes {
				add(rest, code)
				add(code, rest)
			}
		}
	}
	return !rests[""]
}

// pairOf finds the pair among all lists with at most n cells, which are compared with each other.
func pairOf(t []api.Sign, n int) (a, b []int, ok bool) {
	lists := map[string][][]int{}
	var grow func(l []int, cells []int)
	grow = func(l []int, cells []int) {
		lists[keyOf(cells)] = append(lists[keyOf(cells)], l)
		for i, x := range t {
			if len(cells)+len(x.Cells) <= n {
				grow(append(l[:len(l):len(l)], i), slices.Concat(cells, x.Cells))
			}
		}
	}
	grow(nil, nil)
	for cells := range n + 1 {
		for key, l := range lists {
			if len(key) != cells || len(l) < 2 {
				continue
			}
			// Lists are found in their order, so that the first two of those with the same cells are the best ones.
			if !ok || (both{l[0], l[1]}).before(both{a, b}) {
				a, b, ok = l[0], l[1], true
			}
		}
		if ok {
			return a, b, true
		}
	}
	return nil, nil, false
}

// checkTwice compares Twice with the other ways, and returns whether there is a pair, and its cells.
func checkTwice(t *testing.T, table []api.Sign) (cells []int, ok bool) {
	t.Helper()
	wantA, wantB, wantOk := twiceOf(table)
	a, b, ok, e := braille.Twice(table)
	if e != api.OK || ok != wantOk || ok == isClear(table) || !slices.Equal(a, wantA) || !slices.Equal(b, wantB) {
		t.Fatalf("%v: %v %v %v %v, not %v %v %v", table, a, b, ok, e, wantA, wantB, wantOk)
	}
	if ok {
		checkPair(t, table, a, b)
	}
	return cellsOf(table, a), ok
}

// checkPair checks what is true of each pair that Twice finds.
func checkPair(t *testing.T, table []api.Sign, a, b []int) {
	t.Helper()
	cells := cellsOf(table, a)
	if slices.Compare(a, b) >= 0 || a[0] == b[0] || !slices.Equal(cells, cellsOf(table, b)) {
		t.Fatalf("%v: %v %v", table, a, b)
	}
	if s, ok, e := braille.Decode(table, cells); e != api.OK || ok || s != "" {
		t.Fatalf("%v: %v %q %v %v", table, cells, s, ok, e)
	}
}

// P12.2: the examples of the document, and others of which the lists can be seen.
func TestTwice(t *testing.T) {
	for _, x := range []struct {
		table []api.Sign
		a, b  []int
	}{
		{coded([]int{1}, []int{1, 2}, []int{2}), []int{0, 2}, []int{1}},
		{coded([]int{1, 2}, []int{1}, []int{2}), []int{0}, []int{1, 2}},
		{coded([]int{2}, []int{1}, []int{1, 2}), []int{1, 0}, []int{2}},
		{coded([]int{1}, []int{1}), []int{0}, []int{1}},
		{coded([]int{1}, []int{1, 2}), nil, nil},
		{coded([]int{1}), nil, nil}, {coded([]int{1, 1}), nil, nil}, {coded([]int{0}), nil, nil}, {book(), nil, nil}, {many(64), nil, nil},
		{coded([]int{0}, []int{0, 0}), []int{0, 0}, []int{1}},
		{coded([]int{0, 0}, []int{0, 0, 0}), []int{0, 1}, []int{1, 0}},
		{coded([]int{0, 0, 0}, []int{0, 0}), []int{0, 1}, []int{1, 0}},
		{coded([]int{0, 0, 0}, []int{0, 0, 0, 0}), []int{0, 1}, []int{1, 0}},
		{coded([]int{0, 0}, []int{0, 0, 0, 0}), []int{0, 0}, []int{1}},
		{coded([]int{3}, []int{5}, []int{5}, []int{5}, []int{3}), []int{0}, []int{4}},
		{coded([]int{7, 8}, []int{5}, []int{5}, []int{3}, []int{3}), []int{1}, []int{2}},
		{coded([]int{1, 2, 3, 4}, []int{9}, []int{1, 2, 3, 4}), []int{0}, []int{2}},
		{coded([]int{1, 2, 3, 4}, []int{1}, []int{2}, []int{3}, []int{4}), []int{0}, []int{1, 2, 3, 4}},
		{coded([]int{1, 2}, []int{3, 4}, []int{1}, []int{2, 3}, []int{4}), []int{0, 1}, []int{2, 3, 4}},
		{coded([]int{1}, []int{1, 2, 3}, []int{2, 3, 1}, []int{2}), []int{0, 2}, []int{1, 0}},
		{coded([]int{0}, []int{0, 1}, []int{1, 1}), nil, nil},
		{coded([]int{0, 1}, []int{1, 0}, []int{0}), []int{0, 2}, []int{2, 1}},
		{coded([]int{0, 1}, []int{1, 0}, []int{0}, []int{1}), []int{0}, []int{2, 3}},
		{coded([]int{1}, []int{1, 2}, []int{2}, []int{2}), []int{2}, []int{3}},
		{coded([]int{1}, []int{2}, []int{1, 2}, []int{2, 1}), []int{0, 1}, []int{2}},
		{coded([]int{2}, []int{1}, []int{1, 2}, []int{2, 1}), []int{0, 1}, []int{3}},
		// The lists 0 2 and 1 4 1 have as many cells, too.
		{coded([]int{0, 0, 1, 1}, []int{0}, []int{1, 0}, []int{1, 1, 0, 0}, []int{0, 1, 1, 1}), []int{0, 1, 1}, []int{1, 1, 3}},
	} {
		a, b, ok, e := braille.Twice(x.table)
		if e != api.OK || ok != (x.a != nil) || !slices.Equal(a, x.a) || !slices.Equal(b, x.b) {
			t.Errorf("%v: %v %v %v %v", x.table, a, b, ok, e)
		}
		checkTwice(t, x.table)
	}
}

// P12.2: all tables of at most three signs with two cells, and of four signs with short ones.
func TestTwiceSmall(t *testing.T) {
	for _, x := range []struct{ signs, cells int }{{3, 4}, {4, 3}} {
		each(x.signs, smallCodes(x.cells), func(l [][]int) {
			if len(l) > 0 {
				checkTwice(t, coded(l...))
			}
		})
	}
}

// P12.4: in all tables of at most three short signs, the pair is the best one of all lists with at most eight cells.
func TestTwiceAmongAll(t *testing.T) {
	each(3, smallCodes(3), func(l [][]int) {
		if len(l) == 0 {
			return
		}
		table := coded(l...)
		wantA, wantB, wantOk := pairOf(table, 8)
		a, b, ok, e := braille.Twice(table)
		if len(cellsOf(table, a)) > 8 {
			a, b, ok = nil, nil, false
		}
		if e != api.OK || ok != wantOk || !slices.Equal(a, wantA) || !slices.Equal(b, wantB) {
			t.Fatalf("%v: %v %v %v %v, not %v %v %v", table, a, b, ok, e, wantA, wantB, wantOk)
		}
	})
}

// anyCodes returns a table in which signs begin and end like others, so that long pairs are likely.
func anyCodes(r *rand.Rand, signs, cells int) (t []api.Sign) {
	var l [][]int
	for range signs {
		var c []int
		if len(l) > 0 && r.IntN(2) == 0 {
			other := l[r.IntN(len(l))]
			c = slices.Clone(other[r.IntN(len(other)):])
		}
		for want := 1 + r.IntN(4); len(c) < want; {
			c = append(c, r.IntN(cells))
		}
		l = append(l, c)
	}
	r.Shuffle(len(l), func(i, j int) { l[i], l[j] = l[j], l[i] })
	return coded(l...)
}

// P12.2, P12.4: many tables, with pairs of many lengths and without.
func TestTwiceAny(t *testing.T) {
	r := rand.New(rand.NewPCG(12, 4))
	clear, longest := 0, 0
	for i := range 20000 {
		signs := 1 + r.IntN([]int{64, 30, 12, 6}[min(3, i%20)])
		cells, ok := checkTwice(t, anyCodes(r, signs, 2+r.IntN(min(62, signs+4))))
		longest = max(longest, len(cells))
		if !ok {
			clear++
		}
	}
	if clear < 1000 || longest < 10 {
		t.Error(clear, longest)
	}
}

// dominoes returns a table in which each sign ends with the number with which the next one begins, so that the only pair has them all.
func dominoes(n int) (t []api.Sign) {
	l := [][]int{{0}}
	for i := range n {
		l = append(l, []int{i, i + 1})
	}
	return coded(append(l, []int{n})...)
}

// steps returns a table with a long pair of which one list is ahead by one cell and by three cells in turn.
func steps(n int) (t []api.Sign) {
	l := [][]int{{0}}
	for i := range n {
		l = append(l, []int{i % 64, (i + 1) % 64, (i + 2) % 64, (i + 3) % 64})
	}
	return coded(append(l, []int{(n + 2) % 64})...)
}

// P12.2, P12.4: tables with long pairs.
func TestTwiceLong(t *testing.T) {
	for n := 1; n < 63; n++ {
		cells, ok := checkTwice(t, dominoes(n))
		if !ok || len(cells) != n+1 {
			t.Errorf("%v: %v %v", n, cells, ok)
		}
		checkTwice(t, steps(n))
	}
	backwards := dominoes(61)
	slices.Reverse(backwards)
	if cells, ok := checkTwice(t, backwards); !ok || len(cells) != 62 {
		t.Error(cells, ok)
	}
}

// P12.2, P12.4: long pairs that have shorter ones or other ones beside them, as some signs are replaced, and as their order differs.
func TestTwiceBesideLong(t *testing.T) {
	r := rand.New(rand.NewPCG(12, 10))
	longest := 0
	for i := range 1500 {
		table := dominoes(1 + r.IntN(40))
		if i%3 == 0 {
			table = steps(1 + r.IntN(40))
		}
		var l [][]int
		for _, x := range table {
			l = append(l, x.Cells)
		}
		for range r.IntN(20) {
			x, y := l[r.IntN(len(l))], l[r.IntN(len(l))]
			x = slices.Concat(x[r.IntN(len(x)):], y)
			l = append(l, x[:1+r.IntN(min(4, len(x)))])
		}
		r.Shuffle(len(l), func(i, j int) { l[i], l[j] = l[j], l[i] })
		cells, _ := checkTwice(t, coded(l...))
		longest = max(longest, len(cells))
	}
	if longest < 35 {
		t.Error(longest)
	}
}

// P12.2: signs with the same cells, all 64 of them, and signs with one number only.
func TestTwiceSame(t *testing.T) {
	for n := 2; n <= 64; n++ {
		for length := 1; length <= 4; length++ {
			table := coded(slices.Repeat([][]int{make([]int, length)}, n)...)
			if a, b, ok, e := braille.Twice(table); e != api.OK || !ok || !slices.Equal(a, []int{0}) || !slices.Equal(b, []int{1}) {
				t.Errorf("%v %v: %v %v %v %v", n, length, a, b, ok, e)
			}
		}
	}
	var all [][]int
	for i := range 64 {
		all = append(all, make([]int, 1+i%4))
	}
	checkTwice(t, coded(all...))
}

// P12.4: if Twice finds nothing, all lists of at most a few signs are decoded to their texts.
func TestReadInOneWay(t *testing.T) {
	r := rand.New(rand.NewPCG(12, 5))
	clear := 0
	for clear < 300 {
		table := anyCodes(r, 1+r.IntN(6), 2+r.IntN(6))
		if _, _, ok, e := braille.Twice(table); ok || e != api.OK {
			continue
		}
		clear++
		var all []int
		for i := range table {
			all = append(all, i)
		}
		each(4, all, func(l []int) {
			if s, ok, e := braille.Decode(table, cellsOf(table, l)); e != api.OK || !ok || s != textOf(table, l) {
				t.Fatalf("%v %v: %q %v %v", table, l, s, ok, e)
			}
		})
	}
}

// P12.5: if Twice finds nothing, what Encode returns is decoded to the text, also if this is long.
func TestBack(t *testing.T) {
	r := rand.New(rand.NewPCG(12, 6))
	read := 0
	for read < 1000 {
		table := anyTable(r, 12, 2+r.IntN(8))
		if _, _, ok, e := braille.Twice(table); ok || e != api.OK {
			continue
		}
		var l []int
		for range r.IntN([]int{8, 250}[min(1, read%40)]) {
			l = append(l, r.IntN(len(table)))
		}
		s := textOf(table, l)
		if len(s) > 4096 {
			continue
		}
		_, cells, ok, e := braille.Encode(table, s)
		if !ok || e != api.OK {
			t.Fatalf("%v %q %v %v", table, s, ok, e)
		}
		if back, ok, e := braille.Decode(table, cells); e != api.OK || !ok || back != s {
			t.Fatalf("%v %q: %q %v %v", table, s, back, ok, e)
		}
		read++
	}
}

// P12.5: two texts together do not need more cells than both of them alone.
func TestTogether(t *testing.T) {
	r := rand.New(rand.NewPCG(12, 7))
	fewer := 0
	for range 20000 {
		table := anyTable(r, 12, 2)
		x, y := anyText(r, 9, 2), anyText(r, 9, 2)
		_, one, ok, e := braille.Encode(table, x)
		_, two, ok2, e2 := braille.Encode(table, y)
		if !ok || !ok2 || e != api.OK || e2 != api.OK {
			continue
		}
		_, cells, ok, e := braille.Encode(table, x+y)
		if !ok || e != api.OK || len(cells) > len(one)+len(two) {
			t.Fatalf("%v %q %q: %v %v %v %v %v", table, x, y, one, two, cells, ok, e)
		}
		if len(cells) < len(one)+len(two) {
			fewer++
		}
	}
	if fewer == 0 {
		t.Error("no texts needed fewer cells together")
	}
}

// P12.3: what Encode returns has the text, in the order of its code points as well.
func TestEncodeHasTheText(t *testing.T) {
	r := rand.New(rand.NewPCG(12, 8))
	for range 2000 {
		table := anyTable(r, 30, len(someRunes))
		for i, x := range someRunes {
			if !slices.ContainsFunc(table, func(y api.Sign) bool { return y.Text == x }) {
				table = append(table, sign(x, i))
			}
		}
		s := anyText(r, 60, len(someRunes))
		signs, cells, ok, e := braille.Encode(table, s)
		if !ok || e != api.OK || textOf(table, signs) != s || !slices.Equal(cells, cellsOf(table, signs)) {
			t.Fatalf("%v %q: %v %v %v %v", table, s, signs, cells, ok, e)
		}
		if l, e := text.Runes(textOf(table, signs)); e != api.OK || len(l) > 60 || len(signs) > len(l) {
			t.Fatalf("%q: %v %v", s, signs, l)
		}
	}
}

// P12.1, P12.2: a table and cells that are passed are not changed (R2), nil is as good as empty (R3), and equal calls return equal results (R6).
func TestPurity(t *testing.T) {
	table := append(book(), sign("ba", 3, 1), sign("c", 1, 3))
	before, cells := fmt.Sprint(table), []int{7, 3, 63}
	first := ""
	for range 5 {
		signs, written, ok, e := braille.Encode(table, "abbab")
		s, ok2, e2 := braille.Decode(table, cells)
		a, b, ok3, e3 := braille.Twice(table)
		now := fmt.Sprint(signs, written, ok, e, s, ok2, e2, a, b, ok3, e3, braille.Check(table))
		if first == "" {
			first = now
		}
		if now != first || fmt.Sprint(table) != before || !slices.Equal(cells, []int{7, 3, 63}) {
			t.Fatal(now, first, table, cells)
		}
		braille.Twice(dominoes(10))
		braille.Encode(table, "\xff")
	}
	for _, nothing := range [][]int{nil, {}} {
		if s, ok, e := braille.Decode(table, nothing); e != api.OK || !ok || s != "" {
			t.Error(s, ok, e)
		}
		if e := braille.Check([]api.Sign{{Text: "a", Cells: nothing}}); e != api.ErrBraille {
			t.Error(e)
		}
	}
}

// P12.1, P12.2: what stands behind the end of the lists that are passed is not read.
func TestCapacity(t *testing.T) {
	table := append(book(), sign("", -1))[:3]
	for i := range table {
		table[i].Cells = append(table[i].Cells, 2, -1)[:1]
	}
	if signs, cells, ok, e := braille.Encode(table, "abb"); e != api.OK || !ok || !slices.Equal(signs, []int{2, 1}) || !slices.Equal(cells, []int{7, 3}) {
		t.Error(signs, cells, ok, e)
	}
	if s, ok, e := braille.Decode(table, append([]int{7, 3}, 2, -1)[:2]); e != api.OK || !ok || s != "abb" {
		t.Error(s, ok, e)
	}
	if a, b, ok, e := braille.Twice(table); e != api.OK || ok || len(a) != 0 || len(b) != 0 {
		t.Error(a, b, ok, e)
	}
}
