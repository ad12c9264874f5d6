package chain_test

import (
	"bytes"
	"crypto/sha256"
	"encoding/binary"
	"encoding/hex"
	"fmt"
	"math"
	"math/rand/v2"
	"slices"
	"testing"

	"hansard/api"
	"hansard/chain"
)

// hashed hashes bytes under a tag without the code that is tested.
func hashed(tag string, b []byte) api.Digest {
	start := sha256.Sum256([]byte(tag))
	return sha256.Sum256(slices.Concat(start[:], b))
}

// headOf returns the head of a list of links without the code that is tested.
func headOf(l []api.Link) api.Digest {
	if len(l) == 0 {
		return hashed("none", nil)
	}
	x := l[len(l)-1]
	b := binary.AppendVarint([]byte{3, 4, 1}, int64(x.Node))
	b = binary.AppendVarint(append(b, 1), int64(x.No))
	for _, part := range [][]byte{x.Prev[:], x.Data} {
		b = append(binary.AppendUvarint(append(b, 2), uint64(len(part))), part...)
	}
	return hashed("link", b)
}

// chainOf returns the chain of a node that records these data.
func chainOf(node int, data ...[]byte) (l []api.Link) {
	for i, b := range data {
		l = append(l, api.Link{Node: node, No: i, Prev: headOf(l), Data: b})
	}
	return l
}

// words returns the chain of a node that records these texts.
func words(node int, texts ...string) []api.Link {
	var data [][]byte
	for _, s := range texts {
		data = append(data, []byte(s))
	}
	return chainOf(node, data...)
}

// counted returns a chain of n links that record their numbers.
func counted(node, n int) []api.Link {
	var texts []string
	for i := range n {
		texts = append(texts, fmt.Sprint(i))
	}
	return words(node, texts...)
}

// relinked returns links with the heads of those before them, from an index on, and otherwise as they are.
func relinked(l []api.Link, from int) []api.Link {
	l = slices.Clone(l)
	for i := from; i < len(l); i++ {
		l[i].Prev = headOf(l[:i])
	}
	return l
}

// changed returns a copy of links in which the link i is changed.
func changed(l []api.Link, i int, change func(x *api.Link)) []api.Link {
	l = slices.Clone(l)
	change(&l[i])
	return l
}

func sameLink(x, y api.Link) bool {
	return x.Node == y.Node && x.No == y.No && x.Prev == y.Prev && bytes.Equal(x.Data, y.Data)
}

func same(a, b []api.Link) bool { return slices.EqualFunc(a, b, sameLink) }

// deepCopy returns links that share no memory with l.
func deepCopy(l []api.Link) (c []api.Link) {
	for _, x := range l {
		x.Data = bytes.Clone(x.Data)
		c = append(c, x)
	}
	return c
}

func show(d api.Digest) string { return hex.EncodeToString(d[:]) }

func upTo32() (d api.Digest) {
	for i := range d {
		d[i] = byte(i)
	}
	return d
}

// P8.1: heads that another program has computed.
func TestHead(t *testing.T) {
	none := headOf(nil)
	for _, x := range []struct {
		name string
		link api.Link
		want string
	}{
		{"the zero link", api.Link{}, "22b6c5f70121f97c4912614c59ae8e2c40560693ed5974373f3a0648d6c9d0ed"},
		{"empty data", api.Link{Data: []byte{}}, "22b6c5f70121f97c4912614c59ae8e2c40560693ed5974373f3a0648d6c9d0ed"},
		{"the first link of a chain", api.Link{Prev: none}, "823b355cfdab9c799c7be3b08ed3e0206ee75885d7a01b6a3a7967a6219e4656"},
		{"abc", api.Link{Node: 3, Prev: none, Data: []byte("abc")}, "430e393df6e4b5332a7e5b7e82d5c998adfe7cdcb6cd485dfaeadcd1f306c18b"},
		{"the last link of the last node", api.Link{Node: 23, No: 1023, Prev: upTo32(), Data: []byte{0, 255}}, "f78a98b44bf3ae8e8786a4fb6adec845fe0129312f0f3c74ad06ec784bcf01a0"},
		{"127 bytes", api.Link{Node: 5, No: 64, Prev: upTo32(), Data: bytes.Repeat([]byte("a"), 127)}, "43955e5a59450c554f858a888062c48254ef51e7a12957bf07272a805e3c7a43"},
		{"128 bytes", api.Link{Node: 5, No: 64, Prev: upTo32(), Data: bytes.Repeat([]byte("a"), 128)}, "1570db69857100b32f46c88e24610064de570004d5f37330d8646ac65d091954"},
		{"the least node", api.Link{Node: math.MinInt, No: math.MaxInt, Data: []byte("x")}, "0b514fd69c5471cad61225a6b830bab9ec8954f3f8c677a2e2f6535d90125208"},
		{"the greatest node", api.Link{Node: math.MaxInt, No: math.MinInt, Data: []byte("x")}, "2cbe3818493c19aabf168683560229345beb3f99d2d1546f4685018aea36b4f1"},
		{"negative numbers", api.Link{Node: -1, No: -1, Prev: upTo32()}, "71847d703272387284c81dadd5dd04640e601f1b04f4619956963311f7094652"},
		{"65536 bytes", api.Link{Node: 7, No: 2, Prev: upTo32(), Data: bytes.Repeat([]byte("b"), 65536)}, "f5a591ebc24ca0521b01941dca3d5b394af79ae62b25113851f9c2d08554eef6"},
		{"65537 bytes", api.Link{Node: 7, No: 2, Prev: upTo32(), Data: bytes.Repeat([]byte("b"), 65537)}, "ffbf05026f70f411b7cce5cb6113f4169a2d7f0b9191582943c9260f15d5f2fa"},
		{"2^20 bytes", api.Link{Node: 7, No: 2, Prev: upTo32(), Data: bytes.Repeat([]byte("c"), 1<<20)}, "f06ce51f4612c8bfa36ba660499a38b0841cee35a8687ac87533862e8770c076"},
	} {
		// Only the last link counts, whether the list is a chain or not.
		for _, before := range [][]api.Link{nil, {{}}, counted(3, 5), make([]api.Link, 1024)} {
			if d := chain.Head(append(before, x.link)); show(d) != x.want {
				t.Error(x.name, len(before), show(d))
			}
		}
	}
	for _, l := range [][]api.Link{nil, {}} {
		if d := chain.Head(l); show(d) != "fc0dc92a9ee3a34bdcd9829491bb7b0c1c0195252746bd42cf69b9c2cf45fdfa" {
			t.Error(show(d))
		}
	}
}

// P8.1: heads of chains that another program has computed.
func TestHeadOfChains(t *testing.T) {
	l := words(4, "a", "", "ccc")
	for i, want := range []string{
		"fc0dc92a9ee3a34bdcd9829491bb7b0c1c0195252746bd42cf69b9c2cf45fdfa",
		"0caadf5423cfb848ebe40b540f5918a30098a7766831d517a52e03236135b30f",
		"6686d51e891835749e6596e540cf3562504521ebee3eedfda7d1dd35269811e9",
		"673114e12b8575a28c5951839d8abc6fa572696001acb9f9ae464cee2a453173",
	} {
		if d := chain.Head(l[:i]); show(d) != want {
			t.Error(i, show(d))
		}
	}
	if d := chain.Head(counted(23, 1024)); show(d) != "f56bbdfa7dbab3234eb106aa7399d63b2cd105bdf3943bc8a3178ac6dfebfa93" {
		t.Error(show(d))
	}
}

// P8.1: links of any numbers and data have the heads that the chapter says, and each of their fields counts.
func TestAnyHead(t *testing.T) {
	r := rand.New(rand.NewPCG(8, 1))
	seen := map[api.Digest]api.Link{}
	for range 3000 {
		x := api.Link{Node: int(r.Uint64()) >> r.IntN(64), No: int(r.Uint64()) >> r.IntN(64), Prev: anyDigest(r), Data: anyBytes(r, r.IntN(300))}
		d := chain.Head([]api.Link{x})
		if d != headOf([]api.Link{x}) {
			t.Error(x, show(d))
		}
		seen[d] = x
	}
	x := api.Link{Node: 3, No: 3, Prev: upTo32(), Data: []byte{3}}
	others := []api.Link{x, {No: 3, Prev: upTo32(), Data: []byte{3}}, {Node: 3, Prev: upTo32(), Data: []byte{3}}, {Node: 3, No: 3, Data: []byte{3}}, {Node: 3, No: 3, Prev: upTo32()}, {Node: 3, No: 3, Prev: upTo32(), Data: []byte{3, 0}}}
	for at := range x.Prev {
		y := x
		y.Prev[at] ^= 128
		others = append(others, y)
	}
	for _, y := range others {
		d := chain.Head([]api.Link{y})
		if z, ok := seen[d]; ok {
			t.Error(y, z)
		}
		seen[d] = y
	}
}

func anyBytes(r *rand.Rand, n int) []byte {
	b := make([]byte, n)
	for i := range b {
		b[i] = byte(r.Uint32())
	}
	return b
}

func anyDigest(r *rand.Rand) api.Digest { return api.Digest(anyBytes(r, 32)) }

// full is as many bytes as a link may have, and one more is long.
var (
	full = bytes.Repeat([]byte{7}, 65536)
	long = bytes.Repeat([]byte{7}, 65537)
)

var chains = []struct {
	name string
	l    []api.Link
}{
	{"no links", nil},
	{"an empty list", []api.Link{}},
	{"a link without data", chainOf(0, nil)},
	{"a link with empty data", chainOf(0, []byte{})},
	{"the last node", words(23, "a")},
	{"three links", words(4, "a", "", "ccc")},
	{"equal data", words(9, "a", "a", "a", "a")},
	{"65536 bytes", chainOf(1, full)},
	{"65536 bytes in each link", chainOf(1, full, full, full)},
	{"1023 links", counted(22, 1023)},
	{"1024 links", counted(22, 1024)},
}

// wrongChains are lists that are no chains. Apart from what their names say, all is right in them: the later links have the heads of those before them.
func wrongChains() (l []wrong) {
	add := func(name string, e api.Errno, links []api.Link) { l = append(l, wrong{name, links, e}) }
	for _, node := range []int{-1, 24, 25, 256, -256, math.MinInt, math.MaxInt, 1 << 32} {
		add(fmt.Sprint("the node ", node), api.ErrChain, words(node, "a"))
		add(fmt.Sprint("three links of the node ", node), api.ErrChain, words(node, "a", "b", "c"))
	}
	three := words(4, "a", "b", "c")
	for i := range three {
		for _, node := range []int{3, 5, 0, 23, 24, -1} {
			add(fmt.Sprint("the node ", node, " at ", i), api.ErrChain, relinked(changed(three, i, func(x *api.Link) { x.Node = node }), i))
		}
		for _, no := range []int{-1, 0, 1, 2, 3, 4, 256 + i, -i, math.MinInt, math.MaxInt} {
			if no != i {
				add(fmt.Sprint("the number ", no, " at ", i), api.ErrChain, relinked(changed(three, i, func(x *api.Link) { x.No = no }), i))
			}
		}
		for name, prev := range map[string]api.Digest{
			"no digest": {}, "the digest of none": headOf(nil), "its own head": headOf(three[:i+1]), "another head": headOf(words(4, "b", "a", "c")[:i]),
			"an earlier head": headOf(three[:max(i-1, 0)]), "the head of another node": headOf(words(5, "a", "b", "c")[:i]),
		} {
			if prev != three[i].Prev {
				add(fmt.Sprint(name, " at ", i), api.ErrChain, relinked(changed(three, i, func(x *api.Link) { x.Prev = prev }), i+1))
			}
		}
		for at := range 32 {
			add(fmt.Sprint("a wrong byte ", at, " of Prev at ", i), api.ErrChain, relinked(changed(three, i, func(x *api.Link) { x.Prev[at] ^= 1 }), i+1))
		}
		add(fmt.Sprint("65537 bytes at ", i), api.ErrChain, relinked(changed(three, i, func(x *api.Link) { x.Data = long }), i))
	}
	add("numbers from 1 on", api.ErrChain, relinked([]api.Link{{Node: 4, No: 1, Data: []byte("a")}, {Node: 4, No: 2, Data: []byte("b")}}, 0))
	add("a link that is missing in front", api.ErrChain, three[1:])
	add("a link that is missing in the middle", api.ErrChain, []api.Link{three[0], three[2]})
	add("a link twice", api.ErrChain, []api.Link{three[0], three[1], three[1], three[2]})
	add("links in another order", api.ErrChain, []api.Link{three[1], three[0], three[2]})
	add("the head of a tag that is another one", api.ErrChain, []api.Link{{Prev: hashed("empty", nil)}})
	add("1024 links, the last one wrong", api.ErrChain, changed(counted(4, 1024), 1023, func(x *api.Link) { x.Prev[31]++ }))
	add("1024 links, the first one wrong", api.ErrChain, relinked(changed(counted(4, 1024), 0, func(x *api.Link) { x.Prev[0]++ }), 1))
	add("1025 links", api.ErrLimit, counted(4, 1025))
	add("1025 links that are wrong", api.ErrLimit, make([]api.Link, 1025))
	add("5000 links", api.ErrLimit, counted(4, 5000))
	add("many links", api.ErrLimit, make([]api.Link, 1<<20))
	return l
}

type wrong struct {
	name string
	l    []api.Link
	e    api.Errno
}

// P8.1: Check accepts the lists that the chapter calls chains, and no others.
func TestCheck(t *testing.T) {
	for _, x := range chains {
		if e := chain.Check(x.l); e != api.OK {
			t.Error(x.name, e)
		}
	}
	for node := -3; node < 27; node++ {
		want := api.ErrChain
		if node >= 0 && node <= 23 {
			want = api.OK
		}
		if e := chain.Check(words(node, "a", "b")); e != want {
			t.Error(node, e)
		}
	}
	for _, x := range wrongChains() {
		if e := chain.Check(x.l); e != x.e {
			t.Error(x.name, e)
		}
	}
}

// P8.1: the examples of the chapter.
func TestExamples(t *testing.T) {
	if x, e := chain.Add(nil, 24, nil); e != api.ErrArg || len(x) > 0 {
		t.Error(x, e)
	}
	if e := chain.Check([]api.Link{{No: 1, Prev: headOf(nil)}}); e != api.ErrChain {
		t.Error(e)
	}
	if e := chain.Check(nil); e != api.OK {
		t.Error(e)
	}
	x, e := chain.Add(nil, 5, []byte("abc"))
	if e != api.OK || !same(x, []api.Link{{Node: 5, Prev: hashed("none", nil), Data: []byte("abc")}}) {
		t.Error(x, e)
	}
	a := words(3, "a", "b")
	for _, b := range [][]api.Link{a, nil} {
		if i, ok, e := chain.Part(b, a); i != 0 || ok || e != api.OK {
			t.Error(i, ok, e)
		}
	}
}

// P8.2: Add puts a link with all its fields behind those that are there.
func TestAdd(t *testing.T) {
	for _, data := range [][]byte{nil, {}, {0}, []byte("data"), full} {
		for node := range 24 {
			for _, many := range []int{0, 1, 2, 17} {
				l := counted(node, many)
				want := append(slices.Clone(l), api.Link{Node: node, No: many, Prev: headOf(l), Data: data})
				if x, e := chain.Add(l, node, data); e != api.OK || !same(x, want) {
					t.Error(node, many, len(data), e)
				}
			}
		}
	}
	for _, many := range []int{1000, 1022, 1023} {
		l := counted(2, many)
		want := append(slices.Clone(l), api.Link{Node: 2, No: many, Prev: headOf(l), Data: full})
		if x, e := chain.Add(l, 2, full); e != api.OK || !same(x, want) {
			t.Error(many, e)
		}
	}
	if x, e := chain.Add([]api.Link{}, 2, []byte("a")); e != api.OK || !same(x, words(2, "a")) {
		t.Error(x, e)
	}
	if x, e := chain.Add(chainOf(2, full, full), 2, []byte("a")); e != api.OK || !same(x, chainOf(2, full, full, []byte("a"))) {
		t.Error("behind long data", e)
	}
}

// P8.2: Add refuses nodes that there are not, nodes of other chains, and long data, also if there is no room; with no room it refuses any data.
func TestAddErrors(t *testing.T) {
	for _, many := range []int{0, 1, 2, 1023, 1024} {
		for own := range 24 {
			if many > 2 && own%11 != 1 {
				continue
			}
			l := counted(own, many)
			for _, node := range []int{math.MinInt, -24, -1, 0, 1, own - 1, own, own + 1, own + 256, 12, 22, 23, 24, 25, math.MaxInt} {
				for _, data := range [][]byte{nil, []byte("a"), full, long} {
					want := api.OK
					if node < 0 || node > 23 || many > 0 && node != own || len(data) > 65536 {
						want = api.ErrArg
					} else if many == 1024 {
						want = api.ErrLimit
					}
					x, e := chain.Add(l, node, data)
					if e != want || e != api.OK && len(x) > 0 || e == api.OK && len(x) != many+1 {
						t.Error(many, own, node, len(data), e, len(x))
					}
				}
			}
		}
	}
}

// P8.2: Add returns the error of Check before any other one.
func TestAddToWrongChains(t *testing.T) {
	for _, w := range wrongChains() {
		for _, node := range []int{-1, 0, 4, w.l[0].Node, 24} {
			for _, data := range [][]byte{nil, long} {
				if x, e := chain.Add(w.l, node, data); e != w.e || len(x) > 0 {
					t.Error(w.name, node, len(data), e)
				}
			}
		}
	}
}

// P8.3: all pairs of many chains; they part at the first links that are not equal.
func TestPart(t *testing.T) {
	texts := []string{"", "a", "b"}
	lists := [][]string{nil}
	for from := 0; from < 13; from++ {
		for _, s := range texts {
			lists = append(lists, append(slices.Clip(lists[from]), s))
		}
	}
	for _, v := range lists {
		for _, w := range lists {
			wantI, wantOK := 0, false
			for i := min(len(v), len(w)) - 1; i >= 0; i-- {
				if v[i] != w[i] {
					wantI, wantOK = i, true
				}
			}
			if i, ok, e := chain.Part(words(8, v...), words(8, w...)); e != api.OK || i != wantI || ok != wantOK {
				t.Error(v, w, i, ok, e)
			}
		}
	}
}

// P8.3: long chains that are continued in different ways from any place on, or not, with any lengths.
func TestPartOfLongChains(t *testing.T) {
	r := rand.New(rand.NewPCG(8, 3))
	l := counted(6, 1024)
	for round := range 60 {
		at := r.IntN(1024)
		if round < 4 {
			at = []int{0, 1, 1022, 1023}[round]
		}
		other := changed(l, at, func(x *api.Link) { x.Data = append(bytes.Clone(x.Data), 'x') })
		other = relinked(other, at+1)
		for _, x := range []struct{ m, n int }{{1024, 1024}, {at + 1, 1024}, {1024, at + 1}, {at + 1, at + 1}} {
			if i, ok, e := chain.Part(l[:x.m], other[:x.n]); e != api.OK || i != at || !ok {
				t.Error(at, x, i, ok, e)
			}
		}
		for _, x := range []struct{ m, n int }{{at, 1024}, {1024, at}, {at, at}, {at, at + 1}} {
			if i, ok, e := chain.Part(l[:x.m], other[:x.n]); e != api.OK || i != 0 || ok {
				t.Error(at, x, i, ok, e)
			}
		}
	}
}

// P8.3: links are equal if their data are, also in other memory, and whether no data are nil or empty; one byte more or less, or another one, makes a difference.
func TestPartByData(t *testing.T) {
	data := [][]byte{nil, {}, {0}, {0, 0}, {1}, full, full[1:], append(bytes.Clone(full[1:]), 8)}
	for _, v := range data {
		for _, w := range data {
			a, b := chainOf(0, []byte("a"), v, []byte("c")), deepCopy(chainOf(0, []byte("a"), w, []byte("c")))
			i, ok, e := chain.Part(a, b)
			if differ := !bytes.Equal(v, w); e != api.OK || ok != differ || ok && i != 1 || !ok && i != 0 {
				t.Error(len(v), len(w), i, ok, e)
			}
		}
	}
}

// P8.3: the error of Check of the first list, that of the second one, and ErrChain for chains of two nodes, in this order.
func TestPartErrors(t *testing.T) {
	wrongs := wrongChains()
	for _, w := range wrongs {
		for _, l := range [][]api.Link{nil, words(4, "a"), words(7, "a", "b"), counted(4, 1024), w.l} {
			for _, pair := range [][2][]api.Link{{w.l, l}, {l, w.l}} {
				if i, ok, e := chain.Part(pair[0], pair[1]); e != w.e || i != 0 || ok {
					t.Error(w.name, len(l), i, ok, e)
				}
			}
		}
		tooMany := counted(5, 1025)
		if i, ok, e := chain.Part(w.l, tooMany); e != w.e || i != 0 || ok {
			t.Error(w.name, i, ok, e)
		}
		if i, ok, e := chain.Part(tooMany, w.l); e != api.ErrLimit || i != 0 || ok {
			t.Error(w.name, i, ok, e)
		}
	}
	for a := range 24 {
		for b := range 24 {
			want := api.OK
			if a != b {
				want = api.ErrChain
			}
			for _, texts := range [][]string{{"a"}, {"a", "b"}, {"a", "b", "c"}} {
				if i, ok, e := chain.Part(words(a, "a", "b"), words(b, texts...)); e != want || i != 0 || ok {
					t.Error(a, b, texts, i, ok, e)
				}
			}
		}
		for _, pair := range [][2][]api.Link{{nil, words(a, "a")}, {words(a, "a"), {}}} {
			if i, ok, e := chain.Part(pair[0], pair[1]); e != api.OK || i != 0 || ok {
				t.Error(a, i, ok, e)
			}
		}
	}
	if i, ok, e := chain.Part(nil, nil); e != api.OK || i != 0 || ok {
		t.Error(i, ok, e)
	}
}

// P8.2, P8.4: a chain that is built link by link is one at each length, and so are all beginnings of it, until there is no room.
func TestAddLinkByLink(t *testing.T) {
	var l []api.Link
	for i := range 1024 {
		x, e := chain.Add(l, 11, []byte(fmt.Sprint(i)))
		if e != api.OK || len(x) != i+1 || x[i].Prev != chain.Head(l) {
			t.Fatal(i, e, len(x))
		}
		l = x
	}
	if !same(l, counted(11, 1024)) {
		t.Error("the links are wrong")
	}
	for i := range len(l) + 1 {
		if e := chain.Check(l[:i]); e != api.OK {
			t.Error(i, e)
		}
	}
	if x, e := chain.Add(l, 11, nil); e != api.ErrLimit || len(x) > 0 {
		t.Error(e, len(x))
	}
}

// anyChain returns a chain whose data are short and often the same.
func anyChain(r *rand.Rand) []api.Link {
	var data [][]byte
	for range r.IntN(5) {
		data = append(data, bytes.Repeat([]byte{byte(r.IntN(2))}, r.IntN(3)))
	}
	return chainOf(r.IntN(2), data...)
}

// P8.4: what Add returns is a chain; chains of one length have one head only if they are equal.
func TestOneHeadOneChain(t *testing.T) {
	r := rand.New(rand.NewPCG(8, 4))
	seen := map[api.Digest][]api.Link{}
	for range 20000 {
		l := anyChain(r)
		if len(l) > 0 && r.IntN(2) == 0 {
			x, e := chain.Add(l, l[0].Node, anyBytes(r, r.IntN(2)))
			if e != api.OK || chain.Check(x) != api.OK || len(x) != len(l)+1 || !same(x[:len(l)], l) {
				t.Fatal(l, x, e)
			}
			l = x
		}
		d := chain.Head(l)
		if other, ok := seen[d]; ok && !same(other, l) {
			t.Fatal(l, other)
		}
		seen[d] = l
		if i := r.IntN(len(l) + 1); chain.Check(l[:i]) != api.OK {
			t.Fatal(i, l)
		}
	}
}

// P8.4: a link that is replaced is noticed, unless it was the last one; then the head is another one.
func TestReplace(t *testing.T) {
	r := rand.New(rand.NewPCG(8, 5))
	for range 3000 {
		l := anyChain(r)
		for i, old := range l {
			link := old
			switch r.IntN(6) {
			case 0:
				link.Node ^= 1
			case 1:
				link.No = r.IntN(5)
			case 2:
				link.Prev[r.IntN(32)] ^= 1 << r.IntN(8)
			case 3:
				link = anyLink(r)
			default:
				link.Data = bytes.Repeat([]byte{byte(r.IntN(2))}, r.IntN(3))
			}
			if sameLink(link, old) {
				continue
			}
			x := changed(l, i, func(x *api.Link) { *x = link })
			ok := i == len(l)-1 && (link.Node == old.Node || i == 0) && link.No == i && link.Prev == old.Prev
			if e := chain.Check(x); ok && e != api.OK || !ok && e != api.ErrChain {
				t.Fatal(l, i, link, e)
			}
			if i == len(l)-1 && chain.Head(x) == chain.Head(l) {
				t.Fatal(l, link)
			}
		}
	}
}

// anyLink returns a link of another chain.
func anyLink(r *rand.Rand) api.Link {
	for {
		if l := anyChain(r); len(l) > 0 {
			return l[r.IntN(len(l))]
		}
	}
}

// P8.4: each link of a long chain is guarded by the next one.
func TestReplaceInLongChain(t *testing.T) {
	l := counted(0, 1024)
	for i := range l {
		x := changed(l, i, func(x *api.Link) { x.Data = append(bytes.Clone(x.Data), 'x') })
		want := api.ErrChain
		if i == 1023 {
			want = api.OK
		}
		if e := chain.Check(x); e != want {
			t.Error(i, e)
		}
	}
}

// R2: arguments and earlier results stay as they are, also the memory behind them.
func TestPurity(t *testing.T) {
	memory := append(words(3, "a", "b", "c"), words(3, "x", "y", "z")...)
	kept := deepCopy(memory)
	l := memory[:3]
	first, _ := chain.Add(l, 3, []byte("d"))
	keptFirst := deepCopy(first)
	buffer := []byte("bytes that follow")
	second, _ := chain.Add(l, 3, buffer[:5])
	third, _ := chain.Add(first, 3, []byte("e"))
	keptThird := deepCopy(third)
	fourth, _ := chain.Add(first, 3, []byte("f"))
	chain.Check(third)
	chain.Head(third)
	if i, ok, e := chain.Part(third, fourth); i != 4 || !ok || e != api.OK {
		t.Error(i, ok, e)
	}
	if !same(memory, kept) || string(buffer) != "bytes that follow" {
		t.Error(memory, string(buffer))
	}
	if !same(first, keptFirst) || !same(third, keptThird) || !same(second, words(3, "a", "b", "c", "bytes")) || !same(fourth, words(3, "a", "b", "c", "d", "f")) {
		t.Error(first, second, third, fourth)
	}
}

// A node may use the memory of its data again when Add has returned.
func TestAddCopiesData(t *testing.T) {
	data := []byte("abc")
	l, _ := chain.Add(nil, 3, data)
	copy(data, "xyz")
	if !same(l, words(3, "abc")) {
		t.Error(l)
	}
}
