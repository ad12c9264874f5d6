package codec

import (
	"bytes"
	"math"
	"math/rand/v2"
	"runtime"
	"slices"
	"strings"
	"testing"

	"hansard/api"
)

func num(n int) api.Value { return api.Value{Kind: api.IntV, N: n} }

func str(s string) api.Value { return api.Value{Kind: api.TextV, S: s} }

func list(l ...api.Value) api.Value { return api.Value{Kind: api.ListV, L: l} }

// nested returns n lists, one within the other, around v.
func nested(n int, v api.Value) api.Value {
	for range n {
		v = list(v)
	}
	return v
}

// join puts bytes together.
func join(parts ...[]byte) []byte { return slices.Concat(parts...) }

// nines are the nine digits with which the longest numerals begin.
var nines = bytes.Repeat([]byte{255}, 9)

var encodings = []struct {
	name string
	v    api.Value
	b    []byte
}{
	{"0", num(0), []byte{1, 0}},
	{"1", num(1), []byte{1, 2}},
	{"-1", num(-1), []byte{1, 1}},
	{"-3", num(-3), []byte{1, 5}},
	{"63", num(63), []byte{1, 126}},
	{"-64", num(-64), []byte{1, 127}},
	{"64", num(64), []byte{1, 128, 1}},
	{"-65", num(-65), []byte{1, 129, 1}},
	{"100", num(100), []byte{1, 200, 1}},
	{"8191", num(8191), []byte{1, 254, 127}},
	{"8192", num(8192), []byte{1, 128, 128, 1}},
	{"2^62", num(1 << 62), []byte{1, 128, 128, 128, 128, 128, 128, 128, 128, 128, 1}},
	{"2^62 - 1", num(1<<62 - 1), []byte{1, 254, 255, 255, 255, 255, 255, 255, 255, 127}},
	{"the least int", num(math.MinInt), join([]byte{1}, nines, []byte{1})},
	{"the greatest int", num(math.MaxInt), join([]byte{1, 254}, nines[1:], []byte{1})},
	{"no text", str(""), []byte{2, 0}},
	{"ab", str("ab"), []byte{2, 2, 97, 98}},
	{"a text that is not UTF-8", str("\xff\x00"), []byte{2, 2, 255, 0}},
	{"127 bytes", str(strings.Repeat("a", 127)), join([]byte{2, 127}, bytes.Repeat([]byte{97}, 127))},
	{"128 bytes", str(strings.Repeat("a", 128)), join([]byte{2, 128, 1}, bytes.Repeat([]byte{97}, 128))},
	{"the empty list", list(), []byte{3, 0}},
	{"100 and ab", list(num(100), str("ab")), []byte{3, 2, 1, 200, 1, 2, 2, 97, 98}},
	{"ab and 100", list(str("ab"), num(100)), []byte{3, 2, 2, 2, 97, 98, 1, 200, 1}},
	{"lists in a list", list(list(), list(num(0)), str("")), []byte{3, 3, 3, 0, 3, 1, 1, 0, 2, 0}},
	{"128 elements", list(slices.Repeat([]api.Value{num(0)}, 128)...), join([]byte{3, 128, 1}, bytes.Repeat([]byte{1, 0}, 128))},
	{"an integer in 16 lists", nested(16, num(1)), join(bytes.Repeat([]byte{3, 1}, 16), []byte{1, 2})},
	{"16 lists behind 16 others", list(nested(14, list()), nested(14, list())), join([]byte{3, 2}, bytes.Repeat([]byte{3, 1}, 14), []byte{3, 0}, bytes.Repeat([]byte{3, 1}, 14), []byte{3, 0})},
	{"16 lists", nested(15, list()), join(bytes.Repeat([]byte{3, 1}, 15), []byte{3, 0})},
}

// wrongValues are values that have no encoding, with what Check says of them.
var wrongValues = []struct {
	name string
	v    api.Value
	e    api.Errno
}{
	{"no kind", api.Value{}, api.ErrArg},
	{"a negative kind", api.Value{Kind: -1}, api.ErrArg},
	{"the kind 4", api.Value{Kind: 4}, api.ErrArg},
	{"the kind 257", api.Value{Kind: 257}, api.ErrArg},
	{"an integer with a text", api.Value{Kind: api.IntV, S: "a"}, api.ErrArg},
	{"an integer with elements", api.Value{Kind: api.IntV, L: []api.Value{num(1)}}, api.ErrArg},
	{"a text with a number", api.Value{Kind: api.TextV, N: 1}, api.ErrArg},
	{"a text with elements", api.Value{Kind: api.TextV, L: []api.Value{num(1)}}, api.ErrArg},
	{"a list with a number", api.Value{Kind: api.ListV, N: -1}, api.ErrArg},
	{"a list with a text", api.Value{Kind: api.ListV, S: "a"}, api.ErrArg},
	{"a wrong element", list(num(1), api.Value{}), api.ErrArg},
	{"a wrong element deep inside", nested(16, api.Value{Kind: api.IntV, S: "a"}), api.ErrArg},
	{"17 lists", nested(16, list()), api.ErrLimit},
	{"an integer in 17 lists", nested(17, num(1)), api.ErrLimit},
	{"17 lists behind shallow elements", list(num(1), list(), nested(16, str("a")), num(2)), api.ErrLimit},
	{"very many lists", nested(60000, list()), api.ErrLimit},
	{"a wrong element in 17 lists", nested(17, api.Value{}), api.ErrArg},
	{"a wrong element behind 17 lists", list(nested(16, list()), api.Value{}), api.ErrArg},
}

// P1.1: the encoding of each value is the one of the table, and Size is its length.
func TestEncode(t *testing.T) {
	for _, x := range encodings {
		if e := Check(x.v); e != api.OK {
			t.Error(x.name, "Check", e)
		}
		if b, e := Encode(x.v); e != api.OK || !bytes.Equal(b, x.b) {
			t.Error(x.name, "Encode", b, e)
		}
		if n, e := Size(x.v); e != api.OK || n != len(x.b) {
			t.Error(x.name, "Size", n, e)
		}
	}
}

// P1.1: a value that is not well-formed leads to ErrArg, also where it is too deep; one that is too deep to ErrLimit.
func TestWrongValues(t *testing.T) {
	for _, x := range wrongValues {
		if e := Check(x.v); e != x.e {
			t.Error(x.name, "Check", e)
		}
		if b, e := Encode(x.v); e != x.e || len(b) > 0 {
			t.Error(x.name, "Encode", b, e)
		}
		if n, e := Size(x.v); e != x.e || n != 0 {
			t.Error(x.name, "Size", n, e)
		}
	}
}

// P1.1: an empty slice of a kind that has no elements is as good as none.
func TestCheckEmptySlices(t *testing.T) {
	for _, kind := range []int{api.IntV, api.TextV, api.ListV} {
		v := api.Value{Kind: kind, L: []api.Value{}}
		if b, e := Encode(v); Check(v) != api.OK || e != api.OK || !bytes.Equal(b, []byte{byte(kind), 0}) {
			t.Error(kind, b, e)
		}
	}
}

// P1.2: the value of an encoding is the one that has it.
func TestDecode(t *testing.T) {
	for _, x := range encodings {
		if v, e := Decode(x.b); e != api.OK || !Same(v, x.v) {
			t.Error(x.name, v, e)
		}
	}
}

// P1.2: bytes that no value is encoded as lead to ErrCode, and to no value.
func TestDecodeWrongBytes(t *testing.T) {
	for _, x := range []struct {
		name string
		b    []byte
	}{
		{"no bytes", nil},
		{"the kind 0", []byte{0, 0}},
		{"the kind 4", []byte{4, 0}},
		{"the kind 255", []byte{255, 0}},
		{"no numeral", []byte{1}},
		{"a numeral that does not end", []byte{1, 128}},
		{"a superfluous digit", []byte{1, 128, 0}},
		{"a superfluous digit behind another one", []byte{1, 129, 128, 0}},
		{"many superfluous digits", join([]byte{1}, bytes.Repeat([]byte{128}, 20), []byte{0})},
		{"65 bits", join([]byte{1}, nines, []byte{2})},
		{"a great last digit", join([]byte{1}, nines, []byte{127})},
		{"eleven digits", join([]byte{1}, nines, []byte{129, 1})},
		{"a far digit", join([]byte{1}, bytes.Repeat([]byte{128}, 20), []byte{1})},
		{"a superfluous eleventh digit", join([]byte{1}, nines, []byte{129, 0})},
		{"a byte behind an integer", []byte{1, 5, 0}},
		{"two integers", []byte{1, 5, 1, 5}},
		{"no length", []byte{2}},
		{"a short text", []byte{2, 3, 97}},
		{"a byte behind a text", []byte{2, 0, 0}},
		{"a superfluous digit of a length", []byte{2, 129, 0, 97}},
		{"the greatest length", join([]byte{2}, nines, []byte{1})},
		{"the length 2^63", join([]byte{2}, bytes.Repeat([]byte{128}, 9), []byte{1})},
		{"no number of elements", []byte{3}},
		{"a missing element", []byte{3, 1}},
		{"half an element", []byte{3, 1, 1}},
		{"a missing second element", []byte{3, 2, 1, 0}},
		{"a list behind a list", []byte{3, 0, 3, 0}},
		{"an element too many", []byte{3, 1, 1, 0, 1, 0}},
		{"a wrong element", []byte{3, 1, 5, 0}},
		{"an element with a superfluous digit", []byte{3, 1, 1, 128, 0}},
		{"the greatest number of elements", join([]byte{3}, nines, []byte{1})},
		{"17 lists", join(bytes.Repeat([]byte{3, 1}, 16), []byte{3, 0})},
		{"17 lists behind a list", join([]byte{3, 2, 3, 0}, bytes.Repeat([]byte{3, 1}, 15), []byte{3, 0})},
		{"very many lists", join(bytes.Repeat([]byte{3, 1}, 1<<20), []byte{3, 0})},
	} {
		if v, e := Decode(x.b); e != api.ErrCode || !Same(v, api.Value{}) {
			t.Error(x.name, v, e)
		}
	}
}

// P1.2, P1.4: of all short byte strings, exactly the encodings have a value, and this one.
func TestDecodeShortBytes(t *testing.T) {
	digits := []byte{0, 1, 2, 3, 4, 97, 127, 128, 129, 255}
	level := [][]byte{nil}
	for range 6 {
		var next [][]byte
		for _, b := range level {
			for _, d := range digits {
				next = append(next, join(b, []byte{d}))
			}
		}
		for _, b := range next {
			v, e := Decode(b)
			again, f := Encode(v)
			if e == api.OK && (f != api.OK || !bytes.Equal(again, b)) || e != api.OK && (e != api.ErrCode || !Same(v, api.Value{})) {
				t.Fatal(b, v, e)
			}
		}
		level = next
	}
}

// P1.3: values are the same if all fields are, whether they are well-formed or not.
func TestSame(t *testing.T) {
	l := []api.Value{
		{}, {Kind: 9}, {N: 1}, {S: "a"}, {L: []api.Value{{}}}, {Kind: api.IntV, S: "a"}, {Kind: api.TextV, N: 1},
		num(0), num(1), num(-1), str(""), str("a"), str("b"), str("ab"),
		list(), list(num(1)), list(num(1), num(2)), list(num(2), num(1)), list(list(num(1))), list(api.Value{}),
		nested(16, list()), nested(17, list()),
	}
	for i, a := range l {
		for k, b := range l {
			if Same(a, b) != (i == k) {
				t.Error(i, k, a, b)
			}
		}
	}
	if deep := nested(60000, list()); !Same(deep, nested(60000, list())) || Same(deep, nested(59999, list())) {
		t.Error("very many lists")
	}
}

// P1.3: no elements are the same as an empty slice of them, also deep inside.
func TestSameEmptySlices(t *testing.T) {
	for kind := range 5 {
		a, b := api.Value{Kind: kind}, api.Value{Kind: kind, L: []api.Value{}}
		if !Same(a, b) || !Same(b, a) || !Same(nested(3, a), nested(3, b)) {
			t.Error(kind)
		}
	}
}

// anyNumber returns a number of any size, which is often small.
func anyNumber(r *rand.Rand) int { return int(r.Uint64()) >> r.IntN(64) }

// anyValue returns a well-formed value that is at most so deep.
func anyValue(r *rand.Rand, deep int) api.Value {
	switch kind := r.IntN(4); {
	case kind == 0:
		return num(anyNumber(r))
	case kind == 1 || deep == 0:
		text := make([]byte, r.IntN(4))
		for i := range text {
			text[i] = byte(r.IntN(4))
		}
		return str(string(text))
	}
	v := list()
	for range r.IntN(4) {
		v.L = append(v.L, anyValue(r, deep-1))
	}
	return v
}

func anyValues() (l []api.Value) {
	r := rand.New(rand.NewPCG(1, 2))
	for range 400 {
		l = append(l, anyValue(r, r.IntN(6)))
	}
	for _, x := range encodings {
		l = append(l, x.v)
	}
	return l
}

// P1.4: a value is encoded and decoded without a change, and its size is that of its encoding.
func TestThereAndBack(t *testing.T) {
	for _, v := range anyValues() {
		b, e := Encode(v)
		n, f := Size(v)
		back, g := Decode(b)
		if e != api.OK || f != api.OK || g != api.OK || n != len(b) || !Same(back, v) {
			t.Error(v, b, n, back)
		}
	}
}

// P1.4: different values have different encodings, and none of them begins another one.
func TestNoEncodingBeginsAnother(t *testing.T) {
	values := anyValues()
	codes := make([][]byte, len(values))
	for i, v := range values {
		codes[i], _ = Encode(v)
	}
	for i, a := range values {
		for k, b := range values {
			if bytes.HasPrefix(codes[k], codes[i]) && !Same(a, b) {
				t.Error(a, b, codes[i], codes[k])
			}
		}
	}
	for _, b := range codes {
		for n := range b {
			if v, e := Decode(b[:n]); e != api.ErrCode {
				t.Error(b, n, v, e)
			}
		}
	}
}

// P1.4: a list is as long as one of as many zeros, without these, and its elements.
func TestSizeOfLists(t *testing.T) {
	l := anyValues()
	for _, many := range []int{0, 1, 2, 127, 128, 300} {
		var elements []api.Value
		want, _ := Size(list(slices.Repeat([]api.Value{num(0)}, many)...))
		for i := range many {
			x := l[i]
			if depth(x) == api.MaxDepth {
				x = num(i)
			}
			n, _ := Size(x)
			zero, _ := Size(num(0))
			elements, want = append(elements, x), want+n-zero
		}
		if n, e := Size(list(elements...)); e != api.OK || n != want {
			t.Error(many, n, want, e)
		}
	}
}

// Calls leave their arguments alone, and what they returned is not changed by later ones.
func TestPurity(t *testing.T) {
	code := []byte{3, 2, 1, 200, 1, 2, 2, 97, 98, 99}
	before := slices.Clone(code)
	whole := code[:9]
	v, e := Decode(whole)
	first, f := Encode(v)
	kept := slices.Clone(first)
	_ = append(first, 1, 2, 3)
	Encode(list(v, v))
	if e != api.OK || f != api.OK || !bytes.Equal(code, before) || !bytes.Equal(first, kept) || !Same(v, list(num(100), str("ab"))) {
		t.Error(code, first, v)
	}
	if _, e := Decode(code); e != api.ErrCode {
		t.Error("a byte behind a list", e)
	}
}

// P1.2: a list that promises more elements than there are bytes leads to an error before it takes memory for them.
func TestDecodeTakesNoMemoryForPromises(t *testing.T) {
	var before, after runtime.MemStats
	runtime.ReadMemStats(&before)
	v, e := Decode([]byte{3, 128, 128, 128, 8, 1, 0})
	runtime.ReadMemStats(&after)
	if grown := after.TotalAlloc - before.TotalAlloc; e != api.ErrCode || !Same(v, api.Value{}) || grown > 1<<20 {
		t.Error(e, grown)
	}
}
