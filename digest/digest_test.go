package digest

import (
	"bytes"
	"crypto/sha256"
	"encoding/binary"
	"encoding/hex"
	"math"
	"math/rand/v2"
	"slices"
	"strings"
	"testing"

	"hansard/api"
)

// filled returns a digest of 32 equal bytes.
func filled(b byte) api.Digest { return api.Digest(bytes.Repeat([]byte{b}, 32)) }

// counted returns the digests of n bytes, from 0 on.
func counted(n int) (l []api.Digest) {
	for i := range n {
		l = append(l, filled(byte(i)))
	}
	return l
}

// anyBytes returns n bytes, which depend on n only.
func anyBytes(n int) []byte {
	r := rand.New(rand.NewPCG(3, uint64(n)))
	b := make([]byte, n)
	for i := range b {
		b[i] = byte(r.Uint32())
	}
	return b
}

// anyDigests returns n different digests.
func anyDigests(n int) (l []api.Digest) {
	for i := range n {
		l = append(l, sha256.Sum256([]byte{byte(i), byte(i >> 8), byte(i >> 16)}))
	}
	return l
}

// oracle hashes bytes under a tag without the code that is tested.
func oracle(tag string, parts ...[]byte) api.Digest {
	start := sha256.Sum256([]byte(tag))
	return sha256.Sum256(append(start[:], bytes.Join(parts, nil)...))
}

func show(d api.Digest) string { return hex.EncodeToString(d[:]) }

// P2.1: hashes that other programs have published.
func TestSum(t *testing.T) {
	for _, x := range []struct{ text, want string }{
		{"", "e3b0c44298fc1c149afbf4c8996fb92427ae41e4649b934ca495991b7852b855"},
		{"abc", "ba7816bf8f01cfea414140de5dae2223b00361a396177a9cb410ff61f20015ad"},
		{"abcdbcdecdefdefgefghfghighijhijkijkljklmklmnlmnomnopnopq", "248d6a61d20638b8e5c026930c3e6039a33ce45964ff2167f6ecedd419db06c1"},
		{"abcdefghbcdefghicdefghijdefghijkefghijklfghijklmghijklmnhijklmnoijklmnopjklmnopqklmnopqrlmnopqrsmnopqrstnopqrstu", "cf5b16a778af8380036ce59e7b0492370b249b11e8f07a51afac45037afee9d1"},
		{strings.Repeat("a", 1000000), "cdc76e5c9914fb9281a1c7e284d73e67f1809a48a497200e046d39ccc7112cd0"},
	} {
		if d := Sum([]byte(x.text)); show(d) != x.want {
			t.Error(len(x.text), show(d))
		}
	}
	if Sum(nil) != Sum([]byte{}) {
		t.Error("no bytes")
	}
}

// P2.1: all lengths up to some blocks, among them those at which the padding needs another block, and some great ones.
func TestSumOfAllLengths(t *testing.T) {
	lengths := []int{1<<13 - 1, 1 << 13, 1<<16 + 55, 1<<21 - 1, 1 << 21, 1<<21 + 64}
	for n := range 400 {
		lengths = append(lengths, n)
	}
	for _, n := range lengths {
		b := anyBytes(n)
		if d := Sum(b); d != sha256.Sum256(b) {
			t.Error(n, show(d))
		}
		if d := Sum(make([]byte, n)); d != sha256.Sum256(make([]byte, n)) {
			t.Error(n, "bytes 0", show(d))
		}
	}
}

// P2.1: what follows the bytes is 80, zeros and the number of bits in eight bytes, also if that is a great number.
func TestEnding(t *testing.T) {
	for _, whole := range []int{0, 64, 1 << 13, 1<<29 - 64, 1 << 29, 1<<31 - 64, 0x0123456789abcdc0} {
		for n := range blockSize {
			rest, zeros := anyBytes(n), 55-n
			if n > 55 {
				zeros = 119 - n
			}
			want := slices.Concat(rest, []byte{0x80}, make([]byte, zeros))
			want = binary.BigEndian.AppendUint64(want, 8*uint64(whole+n))
			if b := ending(rest, whole+n); !bytes.Equal(b, want) || len(b)%64 != 0 {
				t.Error(whole, n, b)
			}
		}
	}
	if b := ending(nil, 0x0123456789abcdc0); !bytes.Equal(b[56:], []byte{0x09, 0x1a, 0x2b, 0x3c, 0x4d, 0x5e, 0x6e, 0}) {
		t.Error(b)
	}
}

// P2.1: a tag stands before the bytes as its hash, and counts also if it is empty.
func TestTagged(t *testing.T) {
	for _, x := range []struct{ tag, text, want string }{
		{"", "", "5df6e0e2761359d30a8275058e299fcc0381534545f55cf43e41983f5d4c9456"},
		{"leaf", "abc", "5568af306556f6cf790af23475810895140f8ac537f061c5933d2b111a4c9042"},
		{"empty", "", "b11d82bc8e40de229d00122b79ae62222e9c8ce106ec4568c71ba71f1289ee2b"},
	} {
		if d := Tagged(x.tag, []byte(x.text)); show(d) != x.want {
			t.Error(x.tag, x.text, show(d))
		}
	}
	none := Sum(nil)
	if Tagged("", nil) != Sum(none[:]) || Tagged("", []byte{}) != Tagged("", nil) {
		t.Error("no tag and no bytes")
	}
	for _, tag := range []string{"", "a", "leaf", "\xff\x00", strings.Repeat("tag", 50)} {
		for n := range 200 {
			b := anyBytes(n)
			if d := Tagged(tag, b); d != oracle(tag, b) {
				t.Error(tag, n, show(d))
			}
		}
	}
}

// P2.2: the digests of lists.
func TestTree(t *testing.T) {
	for n, want := range map[int]string{
		0: "b11d82bc8e40de229d00122b79ae62222e9c8ce106ec4568c71ba71f1289ee2b",
		1: "ee8dbaec322ea4b24ac98d712169b6182dd9315fcfc5a706e63f15acd6e3d1dc",
		2: "d0c939576dcfbaacda4a479b2387636b7cb9228300f0be9dd25a722b8f3ec12a",
		3: "ece1cdb8903ce0345669050ff0ae415f76a84507c74832f424ab94fc291ef6ce",
		4: "926406ecae9a8cd8dcc95b685b40530f5a6177c0890b9d2a72520a4c22792fab",
		5: "cae3d767daf6ab8547786820ea77cad5ea3d36c63d6148d9388ee7f9177f669c",
		7: "4a181ee0b83e880f9432a155728f886ea750f26199e5b66a5d27cad3b85ead99",
		8: "54eb0bbc0f66576c2faea858a43c8a2a8a1111dc1ea362d0f98dd11c27ec0f01",
		9: "a535bdf293bcce8d4ed16b07fccb30b6593d3ec5cd281da2476ca0d8bde5a28e",
	} {
		if d := Tree(counted(n)); show(d) != want {
			t.Error(n, show(d))
		}
	}
	if d := Tree([]api.Digest{}); d != Tagged("empty", nil) || d != Tree(nil) {
		t.Error("no elements", show(d))
	}
	if d := filled(7); Tree([]api.Digest{d}) != oracle("leaf", d[:]) {
		t.Error("one element")
	}
}

// P2.2: the order of a path is from the element on; its parts are on both sides.
func TestPath(t *testing.T) {
	for _, x := range []struct {
		n, at int
		want  []string
	}{
		{1, 0, nil},
		{2, 0, []string{"e8f9bef6128a8ba93b2050e92f9e9872ba6ffc9609f789c3febd0a553dc61435"}},
		{2, 1, []string{"ee8dbaec322ea4b24ac98d712169b6182dd9315fcfc5a706e63f15acd6e3d1dc"}},
		{7, 6, []string{"5375f86f616d0e6f15257c6d510d2c73c8fa9be2e0b836a205b4197445c33340", "926406ecae9a8cd8dcc95b685b40530f5a6177c0890b9d2a72520a4c22792fab"}},
		{7, 2, []string{"f2b5904136b4a32e589a001045f599a65a526f9bc44b07bff9fc693af656cace", "d0c939576dcfbaacda4a479b2387636b7cb9228300f0be9dd25a722b8f3ec12a", "e02fa34b7c5fefce32a33cd0c77accd9cc3f19b66c4bd9fb7cdba102e8e809da"}},
	} {
		path, e := Path(counted(x.n), x.at)
		var got []string
		for _, d := range path {
			got = append(got, show(d))
		}
		if e != api.OK || !slices.Equal(got, x.want) {
			t.Error(x.n, x.at, e, got)
		}
	}
}

// P2.2: a path is asked for an element that is there; otherwise there is none.
func TestPathWithoutElement(t *testing.T) {
	for _, n := range []int{0, 1, 2, 3, 8} {
		for _, at := range []int{-1, n, n + 1, math.MinInt, math.MaxInt} {
			if path, e := Path(anyDigests(n), at); e != api.ErrArg || len(path) > 0 {
				t.Error(n, at, e, path)
			}
		}
	}
	if path, e := Path([]api.Digest{}, 0); e != api.ErrArg || len(path) > 0 {
		t.Error(e, path)
	}
}

// P2.2: paths lead to digests of lists, also of lists that are greater than any memory.
func TestClimb(t *testing.T) {
	most := 1 << 40
	for _, x := range []struct {
		at, n, length int
		want          string
	}{
		{0, 1, 0, "ee8dbaec322ea4b24ac98d712169b6182dd9315fcfc5a706e63f15acd6e3d1dc"},
		{0, most, 40, "cf792ba01b9680dab9811c04d8759c5727be18eb4b3378c2d4d0004f28ca8576"},
		{most - 1, most, 40, "9b39b5e2042859ea48241f8d833f805d57c19375b847773535527ad0dba01bb8"},
		{10<<20 + 5, most, 40, "2921dfa9928b928bd1532fee662d769ea77683e13f20e58136fc14dea3b68d3f"},
		{most / 2, most/2 + 1, 1, "2af26270014e697b731163b6b364cc64299f9684327d7587789dccdf4f4f8884"},
		{most - 3, most - 1, 40, "8917c74d3d0f4b5045676b6d308da9d806188f30c6d1c57c48667e171d903424"},
	} {
		path := counted(x.length + 2)[1:]
		if d, e := Climb(filled(0), x.at, x.n, path[:x.length]); e != api.OK || show(d) != x.want {
			t.Error(x.at, x.n, e, show(d))
		}
		if d, e := Climb(filled(0), x.at, x.n, path[:x.length+1]); e != api.ErrArg || d != (api.Digest{}) {
			t.Error(x.at, x.n, "a longer path", e, show(d))
		}
		if x.length == 0 {
			continue
		}
		if d, e := Climb(filled(0), x.at, x.n, path[:x.length-1]); e != api.ErrArg || d != (api.Digest{}) {
			t.Error(x.at, x.n, "a shorter path", e, show(d))
		}
	}
}

// P2.2: a place that is in no list leads to ErrArg, whatever the length of the path.
func TestClimbWrongPlaces(t *testing.T) {
	most := 1 << 40
	for _, x := range []struct{ at, n int }{
		{0, 0}, {-1, 0}, {0, -1}, {-2, -1}, {0, math.MinInt}, {-1, math.MinInt},
		{0, most + 1}, {most, most + 1}, {0, math.MaxInt}, {math.MaxInt - 1, math.MaxInt},
		{-1, 1}, {1, 1}, {2, 1}, {-1, 5}, {5, 5}, {6, 5}, {math.MinInt, 5}, {math.MaxInt, 5}, {most, most}, {-1, most}, {math.MaxInt, math.MaxInt},
	} {
		for length := range 65 {
			if d, e := Climb(filled(9), x.at, x.n, anyDigests(length)); e != api.ErrArg || d != (api.Digest{}) {
				t.Error(x.at, x.n, length, e, show(d))
			}
		}
	}
}

// P2.2: of all lengths, only that of the path of the element is right; it is not the same for all elements.
func TestClimbLengths(t *testing.T) {
	for n := 1; n <= 20; n++ {
		for at := range n {
			path, _ := Path(anyDigests(n), at)
			for length := range 8 {
				_, e := Climb(filled(1), at, n, anyDigests(length))
				if (e == api.OK) != (length == len(path)) || e != api.OK && e != api.ErrArg {
					t.Error(n, at, length, e)
				}
			}
		}
	}
}

// P2.3: the end of a chain depends on both digests, and on which of them is which.
func TestChain(t *testing.T) {
	if d := Chain(api.Digest{}, api.Digest{}); show(d) != "76c3e62f98d7d9fbfa33894bb6781d543cb4633e84832af429ce901c89c8c4f7" || d != Tagged("chain", make([]byte, 64)) {
		t.Error(show(d))
	}
	if d := Chain(filled(1), filled(2)); show(d) != "941d9fa49bfd457e6a7b620cb11b09366e44d3079b05cba01cc6cabc53faaa80" {
		t.Error(show(d))
	}
	l := anyDigests(10)
	ends := map[api.Digest]bool{}
	for _, a := range l {
		for _, b := range l {
			d := Chain(a, b)
			if d != oracle("chain", a[:], b[:]) || ends[d] {
				t.Error(show(a), show(b))
			}
			ends[d] = true
		}
	}
}

// P2.4: each path leads from its element to the digest of the list, and no other element, place or digest on the way does.
func TestPathsLeadToTrees(t *testing.T) {
	for n := 1; n <= 70; n++ {
		l := anyDigests(n)
		root := Tree(l)
		for at, d := range l {
			path, e := Path(l, at)
			back, f := Climb(d, at, n, path)
			if e != api.OK || f != api.OK || back != root || len(path) > 40 {
				t.Error(n, at, e, f)
			}
			if other, e := Climb(filled(1), at, n, path); e != api.OK || other == root {
				t.Error(n, at, "another element", e)
			}
			if other, _ := Climb(d, at^1, n, path); other == root {
				t.Error(n, at, "another place")
			}
			for i := range path {
				wrong := slices.Clone(path)
				wrong[i][31] ^= 1
				if other, e := Climb(d, at, n, wrong); e != api.OK || other == root {
					t.Error(n, at, i, "another path", e)
				}
			}
		}
	}
}

// P2.4: also in a list with one element more than a tree of hashes may have leaves.
func TestPathsOfManyElements(t *testing.T) {
	l := anyDigests(api.MaxLeaves + 1)
	root := Tree(l)
	for at, length := range map[int]int{0: 17, api.MaxLeaves - 1: 17, api.MaxLeaves: 1} {
		path, e := Path(l, at)
		back, f := Climb(l[at], at, len(l), path)
		if e != api.OK || f != api.OK || back != root || len(path) != length {
			t.Error(at, e, f, len(path))
		}
	}
}

// P2.4: the digest of a list is that of a node of its two parts, of which the first one is the greatest power of 2 below.
func TestTreesAreNodes(t *testing.T) {
	for n := 2; n <= 130; n++ {
		l, k := anyDigests(n), 1
		for 2*k < n {
			k *= 2
		}
		left, right := Tree(l[:k]), Tree(l[k:])
		if d := Tree(l); d != oracle("node", left[:], right[:]) || d != Tagged("node", slices.Concat(left[:], right[:])) {
			t.Error(n, show(d))
		}
	}
}

// P2.4: an element behind a list whose length is a power of 2 makes a node of the old digest and the new leaf.
func TestTreesGrow(t *testing.T) {
	for n := 1; n <= 256; n *= 2 {
		l := anyDigests(n + 1)
		old, leaf := Tree(l[:n]), oracle("leaf", l[n][:])
		if d := Tree(l); d != oracle("node", old[:], leaf[:]) {
			t.Error(n, show(d))
		}
	}
}

// P2.4: different lists have different digests; a node is no leaf, and no list is as good as an empty one.
func TestDifferentLists(t *testing.T) {
	a, b := filled(1), filled(2)
	node := Tree([]api.Digest{a, b})
	seen := map[api.Digest]int{}
	for i, l := range [][]api.Digest{{}, {a}, {b}, {a, b}, {b, a}, {a, a}, {node}, {a, b, a}, {a, b, a, b}, {node, node}, {node, a}, {{}}, {{}, {}}} {
		d := Tree(l)
		if k, ok := seen[d]; ok {
			t.Error(i, k)
		}
		seen[d] = i
	}
}

// Calls leave their arguments alone, also the memory behind them, and what they returned is not changed by later ones.
func TestPurity(t *testing.T) {
	bytesBefore, before := anyBytes(300), anyDigests(40)
	b, l := slices.Clone(bytesBefore), slices.Clone(before)
	Sum(b[:70])
	Tagged("a", b[:119])
	path, _ := Path(l[:11], 3)
	kept := slices.Clone(path)
	_ = append(path, filled(1))
	Path(l[:11], 4)
	Tree(l[:13])
	Climb(l[0], 3, 11, l[:4])
	Chain(l[0], l[1])
	if !bytes.Equal(b, bytesBefore) || !slices.Equal(l, before) || !slices.Equal(path, kept) {
		t.Error("a call changed what it does not own")
	}
}
