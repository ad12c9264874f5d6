package text_test

import (
	"math"
	"math/rand/v2"
	"regexp"
	"slices"
	"strconv"
	"strings"
	"sync"
	"testing"

	"hansard/api"
	"hansard/text"
)

const lastRune = 0x10FFFF

// isRune reports whether the document calls r a code point.
func isRune(r int) bool { return 0 <= r && r < 0xD800 || 0xDFFF < r && r <= lastRune }

// patterns are the bits of the bytes of code points, written from the document.
var patterns = []string{
	"0xxxxxxx",
	"110xxxxx 10xxxxxx",
	"1110xxxx 10xxxxxx 10xxxxxx",
	"11110xxx 10xxxxxx 10xxxxxx 10xxxxxx",
}

// filled returns the bytes of a pattern with the bits of r in the places of x, and whether there are enough of these.
func filled(pattern string, r int) (s string, enough bool) {
	bits := []byte(pattern)
	for i := range bits {
		if at := len(bits) - 1 - i; bits[at] == 'x' {
			bits[at] = '0' + byte(r%2)
			r /= 2
		}
	}
	var b []byte
	for part := range strings.FieldsSeq(string(bits)) {
		n, err := strconv.ParseUint(part, 2, 8)
		if err != nil {
			panic(err)
		}
		b = append(b, byte(n))
	}
	return string(b), r == 0
}

// bytesOf returns the bytes of the first pattern that has enough places.
func bytesOf(r int) string {
	for _, p := range patterns {
		if s, enough := filled(p, r); enough {
			return s
		}
	}
	panic("no pattern has enough places")
}

// joined returns the bytes of code points without the code that is tested.
func joined(l ...int) string {
	var b strings.Builder
	for _, r := range l {
		b.WriteString(bytesOf(r))
	}
	return b.String()
}

// runeOf returns the code point of which s has the bytes. All of them are built once, as they are asked for millions of times.
var runeOf = sync.OnceValue(func() map[string]int {
	all := map[string]int{}
	for r := range lastRune + 1 {
		if isRune(r) {
			all[bytesOf(r)] = r
		}
	}
	return all
})

// runesOf returns the code points of s, and whether it consists of such, without the code that is tested.
func runesOf(s string) (l []int, ok bool) {
	all := runeOf()
	for s != "" {
		length := 1
		for ; length <= min(4, len(s)); length++ {
			if r, found := all[s[:length]]; found {
				l = append(l, r)
				break
			}
		}
		if length > min(4, len(s)) {
			return nil, false
		}
		s = s[length:]
	}
	return l, true
}

// checkRunes compares Runes with what s consists of.
func checkRunes(t *testing.T, s string) {
	t.Helper()
	want, ok := runesOf(s)
	l, e := text.Runes(s)
	if ok && (e != api.OK || !slices.Equal(l, want)) || !ok && (e != api.ErrRune || len(l) != 0) {
		t.Fatalf("%x %x %v", s, l, e)
	}
}

// P9.1: the examples of the document, and code points of all lengths next to each other.
func TestRunes(t *testing.T) {
	for _, x := range []struct {
		s    string
		want []int
	}{
		{"", nil},
		{"a", []int{'a'}},
		{"\x00", []int{0}},
		{"\x00a\x00", []int{0, 'a', 0}},
		{"\x7f", []int{0x7F}},
		{"\xc3\xa9", []int{0xE9}},
		{"\xc2\x80", []int{0x80}},
		{"\xdf\xbf", []int{0x7FF}},
		{"\xe0\xa0\x80", []int{0x800}},
		{"\xed\x9f\xbf", []int{0xD7FF}},
		{"\xee\x80\x80", []int{0xE000}},
		{"\xef\xbf\xbd", []int{0xFFFD}},
		{"a\xef\xbf\xbdb", []int{'a', 0xFFFD, 'b'}},
		{"\xef\xbb\xbfa", []int{0xFEFF, 'a'}},
		{"\xef\xbf\xbe\xef\xbf\xbf", []int{0xFFFE, 0xFFFF}},
		{"\xf0\x90\x80\x80", []int{0x10000}},
		{"\xf4\x8f\xbf\xbf", []int{0x10FFFF}},
		{"e\xcc\x81\xc3\xa9", []int{'e', 0x301, 0xE9}},
		{"a\xd7\x90\xe2\x82\xac\xf0\x9f\x98\x80 ", []int{'a', 0x5D0, 0x20AC, 0x1F600, ' '}},
		{"\xf0\x9f\x98\x80\xe2\x82\xac\xd7\x90a", []int{0x1F600, 0x20AC, 0x5D0, 'a'}},
		{"\r\n", []int{13, 10}},
	} {
		if l, e := text.Runes(x.s); e != api.OK || !slices.Equal(l, x.want) {
			t.Errorf("%x %x %v", x.s, l, e)
		}
		if s, e := text.Join(x.want); e != api.OK || s != x.s {
			t.Errorf("%x %x %v", x.want, s, e)
		}
	}
}

// P9.1: strings that do not consist of the bytes of code points.
func TestRunesWrong(t *testing.T) {
	for _, s := range []string{
		"\xff", "\xfe", "\xf8\x88\x80\x80\x80", "\xfc\x84\x80\x80\x80\x80", // no first byte
		"\x80", "\xbf", "a\x80", "\x80a", "\xc3\xa9\xa9", "\xe2\x82\xac\x80", // a byte that follows nothing
		"\xc0\x80", "\xc0\xaf", "\xc1\xbf", "\xe0\x80\x80", "\xe0\x9f\xbf", "\xf0\x80\x80\x80", "\xf0\x8f\xbf\xbf", // more bytes than needed
		"\xed\xa0\x80", "\xed\xbf\xbf", "\xed\xa0\xbd\xed\xb8\x80", // numbers between the code points
		"\xf4\x90\x80\x80", "\xf5\x80\x80\x80", "\xf7\xbf\xbf\xbf", // numbers above the code points
		"\xc3", "\xe2", "\xe2\x82", "\xf0", "\xf0\x9f", "\xf0\x9f\x98", // missing bytes at the end
		"\xc3a", "\xe2\x82a", "\xf0\x9f\x98a", "\xc3\xc3\xa9", "\xe2\x82\xe2\x82\xac", // missing bytes before another code point
		"\xef\xbf\xbd\xff", "\xff\xef\xbf\xbd",
	} {
		if l, e := text.Runes(s); e != api.ErrRune || len(l) != 0 {
			t.Errorf("%x %x %v", s, l, e)
		}
		if l, e := text.Runes("ab " + s + " c"); e != api.ErrRune || len(l) != 0 {
			t.Errorf("%x %x %v", s, l, e)
		}
		if words, e := text.Split(s); e != api.ErrRune || len(words) != 0 {
			t.Errorf("%x %q %v", s, words, e)
		}
		if words, e := text.Split("ab " + s + " c"); e != api.ErrRune || len(words) != 0 {
			t.Errorf("%x %q %v", s, words, e)
		}
		if text.Word(s) || text.Word("ab"+s) || text.Word(s+"ab") {
			t.Errorf("%x", s)
		}
	}
}

// P9.1, P9.3: each code point has its bytes.
func TestEachRune(t *testing.T) {
	for r := range lastRune + 1 {
		if !isRune(r) {
			continue
		}
		want := bytesOf(r)
		if s, e := text.Join([]int{r}); e != api.OK || s != want {
			t.Fatalf("%x %x %v", r, s, e)
		}
		if l, e := text.Runes(want); e != api.OK || !slices.Equal(l, []int{r}) {
			t.Fatalf("%x %x %v", r, l, e)
		}
	}
}

// P9.1: all strings of at most two bytes, and those of three and four bytes that are made of bytes at which something changes.
func TestRunesOfAllBytes(t *testing.T) {
	checkRunes(t, "")
	for a := range 256 {
		checkRunes(t, string([]byte{byte(a)}))
		for b := range 256 {
			checkRunes(t, string([]byte{byte(a), byte(b)}))
		}
	}
	edges := "\x00a\x7f\x80\x8f\x90\x9f\xa0\xbf\xc1\xc2\xdf\xe0\xe1\xed\xee\xef\xf0\xf1\xf4\xf5\xf8\xff"
	for i := range edges {
		for j := range edges {
			for k := range edges {
				checkRunes(t, string([]byte{edges[i], edges[j], edges[k]}))
				for n := range edges {
					checkRunes(t, string([]byte{edges[i], edges[j], edges[k], edges[n]}))
				}
			}
		}
	}
}

// anyRune returns a code point; those of all lengths and kinds are likely.
func anyRune(r *rand.Rand) int {
	for {
		x := r.IntN([]int{0x21, 0x80, 0x250, 0x800, 0x10000, lastRune + 1}[r.IntN(6)])
		if isRune(x) {
			return x
		}
	}
}

// anyRunes returns up to n code points.
func anyRunes(r *rand.Rand, n int) (l []int) {
	for range r.IntN(n + 1) {
		l = append(l, anyRune(r))
	}
	return l
}

// P9.1: texts in which some bytes are changed, left out or put in.
func TestRunesOfDamagedTexts(t *testing.T) {
	r := rand.New(rand.NewPCG(9, 1))
	for range 100000 {
		b := []byte(joined(anyRunes(r, 6)...))
		for range r.IntN(3) {
			i := r.IntN(len(b) + 1)
			switch {
			case r.IntN(3) == 0:
				b = slices.Insert(b, i, byte(r.IntN(256)))
			case i == len(b):
				b = b[:max(0, i-1)]
			case r.IntN(2) == 0:
				b = slices.Delete(b, i, i+1)
			default:
				b[i] = byte(r.IntN(256))
			}
		}
		checkRunes(t, string(b))
	}
}

// P9.1: a text has at most 4096 bytes, however many code points these are; the length is asked before the bytes are.
func TestRunesLimit(t *testing.T) {
	for _, r := range []int{'a', ' ', 0, 0xE9, 0x5D0, 0x20AC, 0x1F600} {
		one := bytesOf(r)
		for _, extra := range []string{"", "a", "ab", "abc", "abcd"} {
			n := 4096 / len(one)
			s := strings.Repeat(one, n) + extra
			l, e := text.Runes(s)
			words, f := text.Split(s)
			if len(s) > 4096 {
				if e != api.ErrLimit || len(l) != 0 || f != api.ErrLimit || len(words) != 0 {
					t.Errorf("%x %s %d %v %q %v", r, extra, len(l), e, words, f)
				}
				continue
			}
			want := slices.Repeat([]int{r}, n)
			for _, c := range extra {
				want = append(want, int(c))
			}
			if e != api.OK || !slices.Equal(l, want) || f != api.OK || !slices.Equal(words, wordsOf(s)) {
				t.Errorf("%x %s %d %v %q %v", r, extra, len(l), e, words, f)
			}
		}
	}
	for _, x := range []struct {
		s string
		e api.Errno
	}{
		{strings.Repeat("a", 4095) + "\xff", api.ErrRune},
		{"\xff" + strings.Repeat("a", 4095), api.ErrRune},
		{strings.Repeat("\xff", 4096), api.ErrRune},
		{strings.Repeat("a", 4096) + "\xff", api.ErrLimit},
		{"\xff" + strings.Repeat("a", 4096), api.ErrLimit},
		{strings.Repeat("\xff", 4097), api.ErrLimit},
		{strings.Repeat("a ", 1<<20), api.ErrLimit},
	} {
		if l, e := text.Runes(x.s); e != x.e || len(l) != 0 {
			t.Errorf("%.9q %d %v", x.s, len(l), e)
		}
		if words, e := text.Split(x.s); e != x.e || len(words) != 0 {
			t.Errorf("%.9q %d %v", x.s, len(words), e)
		}
	}
}

// noRunes are numbers that are no code points, some of them only with all of their 64 bits.
var noRunes = []int{
	-1, -2, -0x41, 0xD800, 0xD801, 0xDBFF, 0xDC00, 0xDFFE, 0xDFFF, 0x110000, 0x110041, 0x1FFFFF, 0x200000,
	1 << 31, 1<<32 + 0x41, 1<<32 - 1, 1 << 32, -1 << 32, -1<<32 + 0x41, 1<<40 + 0x5D0, 1<<63 - 1, math.MinInt, math.MinInt + 0x41, math.MaxInt32, math.MinInt32,
}

// P9.1: Join asks whether its elements are code points before it asks how many bytes they have.
func TestJoinWrong(t *testing.T) {
	many := slices.Repeat([]int{'a'}, 4096)
	for _, r := range noRunes {
		for _, l := range [][]int{
			{r}, {r, r}, {'a', r}, {r, 'a'}, {'a', r, 0x20AC},
			append([]int{r}, many[1:]...), append(many[1:4096:4096], r),
			append([]int{r}, many...), append(many[:4096:4096], r),
			append(slices.Repeat([]int{0x1F600}, 5000), r),
		} {
			if s, e := text.Join(l); e != api.ErrRune || s != "" {
				t.Errorf("%x %d %.9q %v", r, len(l), s, e)
			}
		}
	}
	for r := 0xD800; r <= 0xDFFF; r++ {
		if s, e := text.Join([]int{r}); e != api.ErrRune || s != "" {
			t.Errorf("%x %q %v", r, s, e)
		}
	}
}

// P9.1: Join returns texts of at most 4096 bytes.
func TestJoinLimit(t *testing.T) {
	for _, x := range []struct {
		l []int
		e api.Errno
	}{
		{slices.Repeat([]int{'a'}, 4096), api.OK},
		{slices.Repeat([]int{'a'}, 4097), api.ErrLimit},
		{slices.Repeat([]int{0}, 4097), api.ErrLimit},
		{slices.Repeat([]int{0xE9}, 2048), api.OK},
		{slices.Repeat([]int{0xE9}, 2049), api.ErrLimit},
		{append(slices.Repeat([]int{0xE9}, 2048), 'a'), api.ErrLimit},
		{append(slices.Repeat([]int{0x20AC}, 1365), 'a'), api.OK},
		{append(slices.Repeat([]int{0x20AC}, 1365), 0xE9), api.ErrLimit},
		{slices.Repeat([]int{0x20AC}, 1366), api.ErrLimit},
		{slices.Repeat([]int{0x1F600}, 1024), api.OK},
		{append(slices.Repeat([]int{0x1F600}, 1024), 'a'), api.ErrLimit},
		{slices.Repeat([]int{0x1F600}, 1025), api.ErrLimit},
		{slices.Repeat([]int{0x1F600}, 1<<20), api.ErrLimit},
	} {
		want := ""
		if x.e == api.OK {
			want = joined(x.l...)
		}
		if s, e := text.Join(x.l); e != x.e || s != want {
			t.Errorf("%d of %x: %d %v", len(x.l), x.l[0], len(s), e)
		}
	}
}

// R3: no code points are the empty text.
func TestNothing(t *testing.T) {
	for _, l := range [][]int{nil, {}} {
		if s, e := text.Join(l); s != "" || e != api.OK {
			t.Errorf("%q %v", s, e)
		}
	}
	if l, e := text.Runes(""); len(l) != 0 || e != api.OK {
		t.Error(l, e)
	}
	if words, e := text.Split(""); len(words) != 0 || e != api.OK {
		t.Error(words, e)
	}
}

// ranges are the code points of each kind but OtherK, written from the document.
var ranges = []struct{ kind, from, to int }{
	{api.SpaceK, 0x9, 0x9}, {api.SpaceK, 0xA, 0xA}, {api.SpaceK, 0xD, 0xD}, {api.SpaceK, 0x20, 0x20},
	{api.DigitK, 0x30, 0x39},
	{api.LeftK, 0x41, 0x5A}, {api.LeftK, 0x61, 0x7A}, {api.LeftK, 0xC0, 0xD6}, {api.LeftK, 0xD8, 0xF6}, {api.LeftK, 0xF8, 0x24F}, {api.LeftK, 0x370, 0x4FF},
	{api.RightK, 0x590, 0x7BF},
}

// P9.2: the kind of each code point.
func TestEachKind(t *testing.T) {
	for r := -0x10000; r <= lastRune+0x10000; r++ {
		want, wantE := api.OtherK, api.OK
		for _, x := range ranges {
			if x.from <= r && r <= x.to {
				want = x.kind
			}
		}
		if !isRune(r) {
			want, wantE = 0, api.ErrRune
		}
		if k, e := text.Kind(r); k != want || e != wantE {
			t.Fatalf("%x %d %v", r, k, e)
		}
	}
}

// P9.2: the examples of the document, and numbers that are no code points.
func TestKind(t *testing.T) {
	for _, x := range []struct{ r, k int }{
		{0x5D0, api.RightK}, {0xD7, api.OtherK}, {0xF7, api.OtherK}, {' ', api.SpaceK}, {'\t', api.SpaceK}, {'\n', api.SpaceK}, {'\r', api.SpaceK},
		{'\v', api.OtherK}, {'\f', api.OtherK}, {0x85, api.OtherK}, {0xA0, api.OtherK}, {0x2003, api.OtherK}, {0x2028, api.OtherK}, {0x3000, api.OtherK},
		{'0', api.DigitK}, {'9', api.DigitK}, {0x660, api.RightK}, {0x966, api.OtherK}, {'a', api.LeftK}, {'Z', api.LeftK}, {0xE9, api.LeftK},
		{0x3B1, api.LeftK}, {0x416, api.LeftK}, {0x627, api.RightK}, {0x20AC, api.OtherK}, {0, api.OtherK}, {lastRune, api.OtherK}, {0xFFFD, api.OtherK},
	} {
		if k, e := text.Kind(x.r); k != x.k || e != api.OK {
			t.Errorf("%x %d %v", x.r, k, e)
		}
	}
	for _, r := range noRunes {
		if k, e := text.Kind(r); k != 0 || e != api.ErrRune {
			t.Errorf("%x %d %v", r, k, e)
		}
	}
}

var noSpace = regexp.MustCompile("[^\t\n\r ]+")

// wordsOf returns the words of a text without the code that is tested.
func wordsOf(s string) []string { return noSpace.FindAllString(s, -1) }

// P9.2: the words of texts; only four code points stand between them.
func TestSplit(t *testing.T) {
	for _, x := range []struct {
		s    string
		want []string
	}{
		{"", nil},
		{" ", nil},
		{"\t\n\r ", nil},
		{"a  b", []string{"a", "b"}},
		{"a", []string{"a"}},
		{" a", []string{"a"}},
		{"a ", []string{"a"}},
		{" a\tb\nc\rd e ", []string{"a", "b", "c", "d", "e"}},
		{"\r\n\r\none\r\ntwo\r\n", []string{"one", "two"}},
		{"b a b", []string{"b", "a", "b"}},
		{"a\vb a\fb a\x00b", []string{"a\vb", "a\fb", "a\x00b"}},
		{"a\u00a0b \u2003 c\u3000d", []string{"a\u00a0b", "\u2003", "c\u3000d"}},
		{"\u0085 \u1680\u2028", []string{"\u0085", "\u1680\u2028"}},
		{"it's 12-14, isn't it?", []string{"it's", "12-14,", "isn't", "it?"}},
		{"\u05e9\u05dc\u05d5\u05dd \u05e2\u05d5\u05dc\u05dd", []string{"\u05e9\u05dc\u05d5\u05dd", "\u05e2\u05d5\u05dc\u05dd"}},
		{"\ufffd \ufffd", []string{"\ufffd", "\ufffd"}},
		{strings.Repeat(" ", 4096), nil},
		{strings.Repeat("a", 4096), []string{strings.Repeat("a", 4096)}},
		{strings.Repeat("a ", 2048), slices.Repeat([]string{"a"}, 2048)},
	} {
		if words, e := text.Split(x.s); e != api.OK || !slices.Equal(words, x.want) {
			t.Errorf("%q %q %v", x.s, words, e)
		}
	}
}

// P9.2: one code point stands between two words exactly if it is white space.
func TestSplitAtEachRune(t *testing.T) {
	for r := range lastRune + 1 {
		if !isRune(r) {
			continue
		}
		s := "a" + bytesOf(r) + "b"
		want := []string{s}
		if r == 9 || r == 10 || r == 13 || r == 32 {
			want = []string{"a", "b"}
		}
		if words, e := text.Split(s); e != api.OK || !slices.Equal(words, want) {
			t.Fatalf("%x %q %v", r, words, e)
		}
		if text.Word(s) != (len(want) == 1) {
			t.Fatalf("%x", r)
		}
	}
}

// P9.2: a word has 1 to 64 bytes, not code points.
func TestWord(t *testing.T) {
	for _, x := range []struct {
		s  string
		ok bool
	}{
		{"", false},
		{"a", true},
		{"\x00", true},
		{" ", false},
		{"\t", false},
		{"\n", false},
		{"\r", false},
		{"a b", false},
		{" a", false},
		{"a ", false},
		{"a\n", false},
		{"a\vb", true},
		{"\u00a0", true},
		{"\u3000", true},
		{"\ufffd", true},
		{"it's", true},
		{"\u05e9\u05dc\u05d5\u05dd", true},
		{strings.Repeat("a", 63), true},
		{strings.Repeat("a", 64), true},
		{strings.Repeat("a", 65), false},
		{strings.Repeat("a", 64) + " ", false},
		{strings.Repeat("a", 63) + " ", false},
		{" " + strings.Repeat("a", 63), false},
		{strings.Repeat("\u00e9", 32), true},
		{strings.Repeat("\u00e9", 32) + "a", false},
		{strings.Repeat("\u00e9", 33), false},
		{strings.Repeat("\u20ac", 21), true},
		{strings.Repeat("\u20ac", 21) + "a", true},
		{strings.Repeat("\u20ac", 22), false},
		{strings.Repeat("\U0001f600", 16), true},
		{strings.Repeat("\U0001f600", 17), false},
		{strings.Repeat("a", 63) + "\xff", false},
		{strings.Repeat("a", 63) + "\u00e9"[:1], false},
		{strings.Repeat("a", 4096), false},
		{strings.Repeat("a", 4097), false},
		{"\xff", false},
		{"a\xffb", false},
		{"a \xff", false},
	} {
		if text.Word(x.s) != x.ok {
			t.Errorf("%q", x.s)
		}
	}
}

// P9.3: Join and Runes lead back to where one began.
func TestBack(t *testing.T) {
	r := rand.New(rand.NewPCG(9, 3))
	for i := range 20000 {
		n := 8
		if i%100 == 0 {
			n = 1000
		}
		l := anyRunes(r, n)
		s, e := text.Join(l)
		if e != api.OK || s != joined(l...) {
			t.Fatalf("%x %x %v", l, s, e)
		}
		back, e := text.Runes(s)
		if e != api.OK || !slices.Equal(back, l) {
			t.Fatalf("%x %x %v", l, back, e)
		}
		again, e := text.Join(back)
		if e != api.OK || again != s {
			t.Fatalf("%x %x %v", s, again, e)
		}
	}
}

// P9.3: of any bytes, what Runes accepts is what Join returns for its code points.
func TestBackFromAnyBytes(t *testing.T) {
	r := rand.New(rand.NewPCG(9, 4))
	likely := []byte("a\x7f\x80\x90\xa0\xbf\xc2\xdf\xe0\xed\xef\xf0\xf4")
	accepted := 0
	for range 200000 {
		b := make([]byte, r.IntN(6))
		for i := range b {
			b[i] = likely[r.IntN(len(likely))]
		}
		l, e := text.Runes(string(b))
		if e != api.OK {
			continue
		}
		accepted++
		if s, e := text.Join(l); e != api.OK || s != string(b) {
			t.Fatalf("%x %x %x %v", b, l, s, e)
		}
	}
	if accepted < 10000 {
		t.Error(accepted)
	}
}

// P9.4: the code points of two texts one after the other.
func TestOneAfterTheOther(t *testing.T) {
	r := rand.New(rand.NewPCG(9, 5))
	for range 20000 {
		a, b := joined(anyRunes(r, 6)...), joined(anyRunes(r, 6)...)
		first, e := text.Runes(a)
		second, f := text.Runes(b)
		both, g := text.Runes(a + b)
		if e != api.OK || f != api.OK || g != api.OK || !slices.Equal(both, slices.Concat(first, second)) {
			t.Fatalf("%x %x %x %v %v %v", a, b, both, e, f, g)
		}
	}
}

// anySpace returns up to n code points of the kind SpaceK, but at least as many as are needed.
func anySpace(r *rand.Rand, needed, n int) string {
	b := make([]byte, needed+r.IntN(n-needed+1))
	for i := range b {
		b[i] = "\t\n\r "[r.IntN(4)]
	}
	return string(b)
}

// anyText returns a text in which white space, and code points that look like it, are likely.
func anyText(r *rand.Rand) string {
	var b strings.Builder
	for range r.IntN(12) {
		switch r.IntN(4) {
		case 0:
			b.WriteString(anySpace(r, 1, 3))
		case 1:
			b.WriteString(bytesOf([]int{0, 8, 0xB, 0xC, 0xE, 0x1F, 0x21, 0x85, 0xA0, 0x2003, 0x3000, 0xFEFF}[r.IntN(12)]))
		default:
			b.WriteString(bytesOf(anyRune(r)))
		}
	}
	return b.String()
}

// P9.2, P9.4: the words of a text are its greatest pieces without white space; with any white space between them, they are the words again.
func TestWordsAgain(t *testing.T) {
	r := rand.New(rand.NewPCG(9, 6))
	for range 50000 {
		s := anyText(r)
		words, e := text.Split(s)
		if e != api.OK || !slices.Equal(words, wordsOf(s)) {
			t.Fatalf("%q %q %v", s, words, e)
		}
		var b strings.Builder
		b.WriteString(anySpace(r, 0, 3))
		for i, w := range words {
			if i > 0 {
				b.WriteString(anySpace(r, 1, 3))
			}
			b.WriteString(w)
		}
		b.WriteString(anySpace(r, 0, 3))
		if again, e := text.Split(b.String()); e != api.OK || !slices.Equal(again, words) {
			t.Fatalf("%q %q %v", b.String(), again, e)
		}
	}
}

// P9.4: a text of at most 64 bytes is a word exactly if it is its own only word.
func TestOwnOnlyWord(t *testing.T) {
	r := rand.New(rand.NewPCG(9, 7))
	many := map[bool]int{}
	for range 50000 {
		s := anyText(r)
		if r.IntN(2) == 0 {
			s = strings.Repeat(joined(anyRunes(r, 2)...), r.IntN(20))
		}
		if len(s) > 64 {
			continue
		}
		words, e := text.Split(s)
		ok := len(words) == 1 && words[0] == s
		if e != api.OK || text.Word(s) != ok {
			t.Fatalf("%q %q %v", s, words, e)
		}
		many[ok]++
	}
	if many[true] < 1000 || many[false] < 1000 {
		t.Error(many)
	}
}

// R2: arguments and earlier results stay as they are, also the memory behind them.
func TestPurity(t *testing.T) {
	memory := []int{'a', 0x20AC, 'b', 'x', 'y'}
	if s, e := text.Join(memory[:3]); s != "a\u20acb" || e != api.OK {
		t.Error(s, e)
	}
	if s, e := text.Join(memory[1:2:3]); s != "\u20ac" || e != api.OK {
		t.Error(s, e)
	}
	if !slices.Equal(memory, []int{'a', 0x20AC, 'b', 'x', 'y'}) {
		t.Error(memory)
	}
	l, _ := text.Runes("abc")
	words, _ := text.Split("a b")
	other, _ := text.Runes("xyz")
	otherWords, _ := text.Split("x y")
	text.Runes("\xff")
	text.Split("\xff")
	if !slices.Equal(l, []int{'a', 'b', 'c'}) || !slices.Equal(words, []string{"a", "b"}) || !slices.Equal(other, []int{'x', 'y', 'z'}) || !slices.Equal(otherWords, []string{"x", "y"}) {
		t.Error(l, words, other, otherWords)
	}
	l[0], words[0] = 'z', "z"
	if again, _ := text.Runes("abc"); !slices.Equal(again, []int{'a', 'b', 'c'}) {
		t.Error(again)
	}
	if again, _ := text.Split("a b"); !slices.Equal(again, []string{"a", "b"}) {
		t.Error(again)
	}
}
