package lex

import (
	"math"
	"math/big"
	"math/rand/v2"
	"regexp"
	"slices"
	"strconv"
	"strings"
	"testing"

	"hansard/api"
)

func name(text string, at int) api.Token { return api.Token{Kind: api.NameT, Text: text, At: at} }

func num(n, at int) api.Token { return api.Token{Kind: api.NumberT, N: n, At: at} }

func sgn(text string, at int) api.Token { return api.Token{Kind: api.SignT, Text: text, At: at} }

// signs are all signs, written from the document.
const signs = "{}();,=:.<>!+-*/"

// longName is a name that has as many bytes as a name may have.
var longName = "a" + strings.Repeat("_9", 15) + "Z"

// full is a source that has as many bytes as a source may have.
var full = strings.Repeat("a\n", api.MaxSource/2)

var sources = []struct {
	src  string
	want []api.Token
}{
	{"", nil},
	{" \t\r\n", nil},
	{"sum 30;", []api.Token{name("sum", 0), num(30, 4), sgn(";", 6)}},
	{"a // b", []api.Token{name("a", 0)}},
	{"//", nil},
	{"// nothing but a comment", nil},
	{"//a\nb//c\nd", []api.Token{name("b", 4), name("d", 9)}},
	{"// \x00 \xff $ _ 007 é\r\t\na", []api.Token{name("a", 20)}},
	{"//a\rb\nc", []api.Token{name("c", 6)}},
	{"//\n//\n//", nil},
	{"a//", []api.Token{name("a", 0)}},
	{"a///b\n/", []api.Token{name("a", 0), sgn("/", 6)}},
	{"a/b", []api.Token{name("a", 0), sgn("/", 1), name("b", 2)}},
	{"a / / b", []api.Token{name("a", 0), sgn("/", 2), sgn("/", 4), name("b", 6)}},
	{"/\n/", []api.Token{sgn("/", 0), sgn("/", 2)}},
	{"/*/", []api.Token{sgn("/", 0), sgn("*", 1), sgn("/", 2)}},
	{"/*//*/", []api.Token{sgn("/", 0), sgn("*", 1)}},
	{"/", []api.Token{sgn("/", 0)}},
	{"B_12", []api.Token{name("B_12", 0)}},
	{"a__", []api.Token{name("a__", 0)}},
	{"A Z a z", []api.Token{name("A", 0), name("Z", 2), name("a", 4), name("z", 6)}},
	{longName, []api.Token{name(longName, 0)}},
	{longName + "-" + longName, []api.Token{name(longName, 0), sgn("-", 32), name(longName, 33)}},
	{"0", []api.Token{num(0, 0)}},
	{"9 10", []api.Token{num(9, 0), num(10, 2)}},
	{"0 0", []api.Token{num(0, 0), num(0, 2)}},
	{"0a", []api.Token{num(0, 0), name("a", 1)}},
	{"12ab", []api.Token{num(12, 0), name("ab", 2)}},
	{"-5", []api.Token{sgn("-", 0), num(5, 1)}},
	{"1.5", []api.Token{num(1, 0), sgn(".", 1), num(5, 2)}},
	{"0.0", []api.Token{num(0, 0), sgn(".", 1), num(0, 2)}},
	{"1099511627776", []api.Token{num(1<<40, 0)}},
	{"1099511627775", []api.Token{num(1<<40-1, 0)}},
	{"a=1", []api.Token{name("a", 0), sgn("=", 1), num(1, 2)}},
	{"==", []api.Token{sgn("=", 0), sgn("=", 1)}},
	{"<!--", []api.Token{sgn("<", 0), sgn("!", 1), sgn("-", 2), sgn("-", 3)}},
	{"a\tb\rc\nd e", []api.Token{name("a", 0), name("b", 2), name("c", 4), name("d", 6), name("e", 8)}},
	{"\r\n \ta \r\n", []api.Token{name("a", 4)}},
}

// P3.1: the tokens of each source, with their places.
func TestLex(t *testing.T) {
	for _, x := range sources {
		if l, at, e := Lex(x.src); e != api.OK || at != 0 || !slices.Equal(l, x.want) {
			t.Errorf("%q %v %v %v", x.src, l, at, e)
		}
	}
}

// P3.1: each sign is a token, and a sign behind another one is one more, but for the two that begin a comment.
func TestLexSigns(t *testing.T) {
	for _, a := range signs {
		if l, at, e := Lex(string(a)); e != api.OK || at != 0 || !slices.Equal(l, []api.Token{sgn(string(a), 0)}) {
			t.Errorf("%c %v %v %v", a, l, at, e)
		}
		for _, b := range signs {
			want := []api.Token{sgn(string(a), 0), sgn(string(b), 1)}
			if a == '/' && b == '/' {
				want = nil
			}
			if l, at, e := Lex(string([]rune{a, b})); e != api.OK || at != 0 || !slices.Equal(l, want) {
				t.Errorf("%c%c %v %v %v", a, b, l, at, e)
			}
		}
	}
}

var wrongSources = []struct {
	src string
	at  int
}{
	{"007", 0},
	{"00", 0},
	{"01", 0},
	{"a 00 $", 2},
	{"a $", 2},
	{"_12", 0},
	{"1_2", 1},
	{"a _", 2},
	{longName + "b", 0},
	{" " + longName + "_", 1},
	{longName + "0 $", 0},
	{strings.Repeat("a", 1000), 0},
	{"1099511627777", 0},
	{"x 9999999999999", 2},
	{"10995116277760", 0},
	{"01099511627776", 0},
	{"x=9223372036854775808", 2},
	{"x=18446744073709551617", 2},
	{"1" + strings.Repeat("0", 400), 0},
	{strings.Repeat("0", 400), 0},
	{strings.Repeat("9", api.MaxSource), 0},
	{"a\x00", 1},
	{"a\x7f", 1},
	{"a\x80", 1},
	{"a\xff", 1},
	{"aé", 1},
	{"grün", 2},
	{"a\vb", 1},
	{"a\fb", 1},
	{"\u00a0", 0},
	{"\ufeffa", 0},
	{"\"a\"", 0},
	{"a // $\n $ //", 8},
	{"a / / / $", 8},
	{"/ //\n/$", 6},
	{"$ 007", 0},
	{"a[0]", 1},
	{full[:api.MaxSource-1] + "$", api.MaxSource - 1},
}

// P3.1: the place is that of the first thing that is no token, where it begins; there are no tokens then.
func TestLexWrongSources(t *testing.T) {
	for _, x := range wrongSources {
		if l, at, e := Lex(x.src); e != api.ErrText || at != x.at || len(l) > 0 {
			t.Errorf("%.50q %v %v %v", x.src, l, at, e)
		}
	}
}

// P3.1: each byte that is not of a class that begins something is refused, with its place.
func TestLexBytes(t *testing.T) {
	for b := range 256 {
		c := string([]byte{byte(b)})
		l, at, e := Lex("a\n" + c)
		isLetter, isNumber := c >= "A" && c <= "Z" || c >= "a" && c <= "z", c >= "0" && c <= "9"
		var want []api.Token
		switch {
		case isLetter:
			want = []api.Token{name("a", 0), name(c, 2)}
		case isNumber:
			want = []api.Token{name("a", 0), num(b-'0', 2)}
		case strings.Contains(signs, c):
			want = []api.Token{name("a", 0), sgn(c, 2)}
		case strings.Contains(" \t\n\r", c):
			want = []api.Token{name("a", 0)}
		}
		if want != nil && (e != api.OK || at != 0 || !slices.Equal(l, want)) || want == nil && (e != api.ErrText || at != 2 || len(l) > 0) {
			t.Errorf("%q %v %v %v", c, l, at, e)
		}
		if Name(c) != isLetter || Name("a"+c) != (isLetter || isNumber || c == "_") {
			t.Errorf("%q in a name", c)
		}
		if l, at, e := Lex("//" + c); e != api.OK || at != 0 || len(l) > 0 {
			t.Errorf("%q in a comment: %v %v %v", c, l, at, e)
		}
	}
}

// P3.1: a source is not too long for itself, whatever it has; a longer one is refused before it is read.
func TestLexLimit(t *testing.T) {
	if l, at, e := Lex(full); e != api.OK || at != 0 || len(l) != api.MaxSource/2 || l[len(l)-1] != name("a", api.MaxSource-2) {
		t.Error(len(l), at, e)
	}
	if l, at, e := Lex(strings.Repeat("/ ", api.MaxSource/2)); e != api.OK || at != 0 || len(l) != api.MaxSource/2 {
		t.Error(len(l), at, e)
	}
	for _, src := range []string{
		strings.Repeat(" ", api.MaxSource+1), "$" + full, full + "$", "//" + full, strings.Repeat("a", api.MaxSource+1), full + full,
	} {
		if l, at, e := Lex(src); e != api.ErrLimit || at != 0 || len(l) > 0 {
			t.Error(len(src), len(l), at, e)
		}
	}
	if l, at, e := Lex(strings.Repeat(" ", api.MaxSource)); e != api.OK || at != 0 || len(l) > 0 {
		t.Error(len(l), at, e)
	}
}

// What the oracle passes over, and what it takes for a token.
var (
	gap    = regexp.MustCompile(`^(?:[ \t\n\r]|//[^\n]*)*`)
	tokens = regexp.MustCompile(`^(?:[A-Za-z][A-Za-z0-9_]*|[0-9]+|[{}();,=:.<>!+*/-])`)
)

// oracle splits a source without the code that is tested.
func oracle(src string) (l []api.Token, at int, e api.Errno) {
	for at = len(gap.FindString(src)); at < len(src); at += len(gap.FindString(src[at:])) {
		text := tokens.FindString(src[at:])
		if text == "" {
			return nil, at, api.ErrText
		}
		n, isNumber := new(big.Int).SetString(text, 10)
		switch {
		case isNumber && (n.Cmp(big.NewInt(1<<40)) > 0 || n.String() != text), !isNumber && len(text) > 32:
			return nil, at, api.ErrText
		case isNumber:
			l = append(l, num(int(n.Int64()), at))
		case strings.Contains(signs, text):
			l = append(l, sgn(text, at))
		default:
			l = append(l, name(text, at))
		}
		at += len(text)
	}
	return l, 0, api.OK
}

// agrees reports whether Lex says of a source what the oracle says.
func agrees(src string) bool {
	l, at, e := Lex(src)
	want, place, f := oracle(src)
	return e == f && at == place && slices.Equal(l, want)
}

// P3.1: all short sources of bytes of all classes.
func TestLexShortSources(t *testing.T) {
	level := []string{""}
	for range 6 {
		var next []string
		for _, src := range level {
			for _, c := range "a_01/ \n=$" {
				next = append(next, src+string(c))
			}
		}
		for _, src := range next {
			if !agrees(src) {
				t.Fatalf("%q", src)
			}
		}
		level = next
	}
}

// anySource returns up to so many pieces of a source, not all of which are always right.
func anySource(r *rand.Rand, most int, wrong bool) string {
	var b strings.Builder
	for range r.IntN(most + 1) {
		switch r.IntN(7) {
		case 0:
			b.WriteString(longName[:1+r.IntN(len(longName))] + " ")
		case 1:
			b.WriteString(strconv.Itoa(r.IntN(1<<40+1)>>r.IntN(41)) + " ")
		case 2, 3:
			b.WriteByte(signs[r.IntN(len(signs))])
		case 4:
			b.WriteString(" \t\n\r"[r.IntN(4):])
		case 5:
			b.WriteString("//" + strings.Repeat("é$/ ", r.IntN(3)) + "\n")
		case 6:
			if wrong && r.IntN(4) == 0 {
				b.WriteString([]string{"$", "\xff", "_", "00", "é", longName + "x", "1099511627777"}[r.IntN(7)])
			}
		}
	}
	return b.String()
}

// anySources returns sources, some of which are wrong, if wrong says so.
func anySources(wrong bool) (l []string) {
	r := rand.New(rand.NewPCG(5, 6))
	for range 2000 {
		l = append(l, anySource(r, r.IntN(40), wrong))
	}
	return l
}

// P3.1: many sources, right and wrong ones.
func TestLexAnySources(t *testing.T) {
	right := 0
	all := anySources(true)
	for _, src := range all {
		if !agrees(src) {
			t.Errorf("%q", src)
		}
		if _, _, e := Lex(src); e == api.OK {
			right++
		}
	}
	if right < len(all)/10 || right > len(all)*9/10 {
		t.Error("the sources are too much alike:", right)
	}
}

// P3.2: the texts stand in order, with one space between two, wherever the tokens stood.
func TestText(t *testing.T) {
	for _, x := range []struct {
		l    []api.Token
		want string
	}{
		{nil, ""},
		{[]api.Token{}, ""},
		{[]api.Token{name("a", 0)}, "a"},
		{[]api.Token{name("a", 0), sgn("=", 1), num(1, 2)}, "a = 1"},
		{[]api.Token{num(0, 9), num(1<<40, 9), num(7, -9)}, "0 1099511627776 7"},
		{[]api.Token{sgn("/", 0), sgn("/", 1), name("b", 2)}, "/ / b"},
		{[]api.Token{name(longName, math.MinInt), name("B_12", math.MaxInt)}, longName + " B_12"},
		{[]api.Token{num(1, 0), name("a", 0), num(2, 0), num(3, 0)}, "1 a 2 3"},
	} {
		if src, e := Text(x.l); e != api.OK || src != x.want {
			t.Errorf("%v %q %v", x.l, src, e)
		}
	}
	for _, c := range signs {
		if src, e := Text([]api.Token{sgn(string(c), 3)}); e != api.OK || src != string(c) {
			t.Errorf("%c %q %v", c, src, e)
		}
	}
}

// P3.2: a text may be longer than a source.
func TestLongText(t *testing.T) {
	l := slices.Repeat([]api.Token{name(longName, 0)}, 4000)
	if src, e := Text(l); e != api.OK || src != strings.Repeat(longName+" ", 3999)+longName {
		t.Error(len(src), e)
	}
}

// wrongTokens are tokens that no source has.
var wrongTokens = []api.Token{
	{},
	{Text: "a"},
	{Kind: -1, Text: "a"},
	{Kind: 4, Text: "a"},
	{Kind: math.MaxInt, N: 1},
	{Kind: api.NameT},
	{Kind: api.NameT, N: 1},
	{Kind: api.NameT, Text: "a", N: 1},
	{Kind: api.NameT, Text: "a", N: -1},
	{Kind: api.NameT, Text: "_12"},
	{Kind: api.NameT, Text: "1a"},
	{Kind: api.NameT, Text: "12"},
	{Kind: api.NameT, Text: "a b"},
	{Kind: api.NameT, Text: "a "},
	{Kind: api.NameT, Text: " a"},
	{Kind: api.NameT, Text: "é"},
	{Kind: api.NameT, Text: "a\x00"},
	{Kind: api.NameT, Text: "="},
	{Kind: api.NameT, Text: longName + "a"},
	{Kind: api.NumberT, N: -1},
	{Kind: api.NumberT, N: 1<<40 + 1},
	{Kind: api.NumberT, N: math.MinInt},
	{Kind: api.NumberT, N: math.MaxInt},
	{Kind: api.NumberT, N: 1, Text: "1"},
	{Kind: api.NumberT, Text: "1"},
	{Kind: api.NumberT, Text: " "},
	{Kind: api.SignT},
	{Kind: api.SignT, Text: "=", N: 1},
	{Kind: api.SignT, Text: "=", N: -1},
	{Kind: api.SignT, Text: "=="},
	{Kind: api.SignT, Text: "//"},
	{Kind: api.SignT, Text: " ="},
	{Kind: api.SignT, Text: " "},
	{Kind: api.SignT, Text: "a"},
	{Kind: api.SignT, Text: "1"},
	{Kind: api.SignT, Text: "_"},
	{Kind: api.SignT, Text: "$"},
	{Kind: api.SignT, Text: "\xff"},
}

// P3.2: a token that is not valid leads to ErrText and to no text, wherever it is in the list.
func TestTextOfWrongTokens(t *testing.T) {
	for _, x := range wrongTokens {
		for _, l := range [][]api.Token{{x}, {x, name("a", 0)}, {name("a", 0), x}, {num(1, 0), x, sgn("=", 0)}} {
			if src, e := Text(l); e != api.ErrText || src != "" {
				t.Errorf("%v %q %v", l, src, e)
			}
		}
	}
}

// P3.2: a sign of one byte is valid exactly if it is one.
func TestTextOfSigns(t *testing.T) {
	for b := range 256 {
		c := string([]byte{byte(b)})
		src, e := Text([]api.Token{sgn(c, 0)})
		if ok := strings.Contains(signs, c); ok != (e == api.OK) || ok && src != c || !ok && (e != api.ErrText || src != "") {
			t.Errorf("%q %q %v", c, src, e)
		}
	}
}

// P3.2: tokens are equal if their kinds, texts and numbers are, valid or not; places do not matter.
func TestSame(t *testing.T) {
	l := [][]api.Token{
		nil,
		{name("a", 0)}, {name("b", 0)}, {name("A", 0)}, {sgn("a", 0)}, {num(1, 0)}, {num(2, 0)}, {num(-1, 0)}, {sgn("=", 0)},
		{name("a", 0), name("a", 0)}, {name("a", 0), name("b", 0)}, {name("b", 0), name("a", 0)},
		{name("ab", 0)}, {name("a", 0), num(1, 0)}, {num(1, 0), name("a", 0)}, {name("a", 0), name("a", 0), name("a", 0)},
		{{}}, {{}, {}}, {{Kind: 9}}, {{Kind: api.NameT, Text: "a", N: 1}}, {{Kind: api.NumberT, Text: "a", N: 1}},
	}
	for i, a := range l {
		for k, b := range l {
			moved := slices.Clone(b)
			for n := range moved {
				moved[n].At = n - 7
			}
			if Same(a, b) != (i == k) || Same(a, moved) != (i == k) || Same(moved, a) != (i == k) {
				t.Error(i, k, a, b)
			}
		}
	}
	if !Same(nil, []api.Token{}) || !Same([]api.Token{}, nil) || Same(nil, []api.Token{{}}) {
		t.Error("no tokens")
	}
}

// P3.2: names begin with a letter and have at most 32 bytes.
func TestName(t *testing.T) {
	for _, s := range []string{"a", "Z", "B_12", "a_", "a0", "aBc", "x__1", "rule", longName, strings.Repeat("z", 32)} {
		if !Name(s) {
			t.Error(s)
		}
	}
	for _, s := range []string{
		"", "_", "_12", "1", "1a", "0", "a b", "a-b", "a.b", " a", "a ", "a\n", "é", "aé", "a\x00", "\xff", "=", "//", "a//b",
		longName + "a", strings.Repeat("z", 33), strings.Repeat("z", 100000),
	} {
		if Name(s) {
			t.Errorf("%.50q", s)
		}
	}
}

// P3.3: what Text returns has the same tokens, and the same text again; each token is valid.
func TestThereAndBack(t *testing.T) {
	for _, src := range anySources(false) {
		l, _, e := Lex(src)
		text, f := Text(l)
		back, at, g := Lex(text)
		again, h := Text(back)
		if e != api.OK || f != api.OK || g != api.OK || h != api.OK || at != 0 || !Same(l, back) || again != text {
			t.Errorf("%q %q", src, text)
		}
	}
}

// P3.3: also a text that is just not too long has the same tokens; one byte more is too much.
func TestThereAndBackLimit(t *testing.T) {
	l := slices.Repeat([]api.Token{num(7, 0)}, api.MaxSource/2)
	short, e := Text(l)
	back, _, f := Lex(short)
	if e != api.OK || f != api.OK || len(short) != api.MaxSource-1 || !Same(l, back) {
		t.Error(len(short), e, f)
	}
	l[0].N = 10
	just, _ := Text(l)
	if back, _, e := Lex(just); e != api.OK || len(just) != api.MaxSource || !Same(l, back) {
		t.Error(len(just), e)
	}
	l[0].N = 100
	long, _ := Text(l)
	if back, _, e := Lex(long); e != api.ErrLimit || len(back) > 0 {
		t.Error(len(long), e)
	}
}

// P3.3: places increase, and at each of them the text of the token stands.
func TestPlaces(t *testing.T) {
	for _, src := range anySources(false) {
		l, _, _ := Lex(src)
		last := -1
		for i, x := range l {
			text, e := Text(l[i : i+1])
			if e != api.OK || x.At <= last || !strings.HasPrefix(src[x.At:], text) {
				t.Errorf("%q %v", src, x)
			}
			last = x.At
		}
	}
}

// P3.3: the tokens of two sources with a line feed between them are those of both, also if the first one ends in a comment.
func TestTwoSources(t *testing.T) {
	l := anySources(false)
	for _, x := range sources {
		l = append(l, x.src)
	}
	for i, a := range l {
		b := l[(i*7+3)%len(l)]
		first, _, _ := Lex(a)
		second, _, _ := Lex(b)
		both, _, e := Lex(a + "\n" + b)
		if e != api.OK || !Same(both, slices.Concat(first, second)) {
			t.Errorf("%q %q", a, b)
		}
	}
}

// P3.3: more white space and comments between tokens make no other tokens.
func TestGapsHaveNoTokens(t *testing.T) {
	for _, src := range anySources(false) {
		l, _, _ := Lex(src)
		hasSlash := slices.ContainsFunc(l, func(x api.Token) bool { return x.Text == "/" })
		for _, between := range []string{" ", "\t", "\r", "\n", " \r\n\t", "//\n", " // a = 007 $ \xff\n", "//\n//\n"} {
			b := between
			for i := range l {
				text, _ := Text(l[i : i+1])
				b += text + between
			}
			// The slash would begin a comment together with the one of the gap.
			if hasSlash && strings.HasPrefix(between, "/") {
				continue
			}
			if other, _, e := Lex(b); e != api.OK || !Same(l, other) {
				t.Errorf("%q %q", src, b)
			}
		}
	}
}

// P3.3: what stands before the place of an error has tokens.
func TestBeforeErrors(t *testing.T) {
	l := anySources(true)
	for _, x := range wrongSources {
		l = append(l, x.src)
	}
	for _, src := range l {
		_, at, e := Lex(src)
		if e == api.OK {
			continue
		}
		if before, place, f := Lex(src[:at]); f != api.OK || place != 0 || !agrees(src[:at]) {
			t.Errorf("%.50q %v %v", src, before, f)
		}
	}
}

// Calls leave their arguments alone, and what they returned is not changed by later ones.
func TestPurity(t *testing.T) {
	l, _, _ := Lex("a = 1 // b")
	kept := slices.Clone(l)
	Text(l)
	Same(l, slices.Clone(l)[:2])
	_ = append(l, num(5, 5))
	if again, _, _ := Lex("a = 1 // b"); !slices.Equal(l, kept) || !slices.Equal(again, kept) {
		t.Error(l, again)
	}
}
