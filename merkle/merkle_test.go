package merkle

import (
	"bytes"
	"crypto/sha256"
	"encoding/hex"
	"math"
	"math/rand/v2"
	"slices"
	"strconv"
	"testing"

	"hansard/api"
	"hansard/digest"
)

// counted returns n leaves; the leaf k has k bytes.
func counted(n int) (l [][]byte) {
	for k := range n {
		l = append(l, bytes.Repeat([]byte{byte(k)}, k))
	}
	return l
}

// numbered returns n different leaves, which are short.
func numbered(n int) (l [][]byte) {
	for k := range n {
		l = append(l, []byte(strconv.Itoa(k)))
	}
	return l
}

// oracle hashes bytes under a tag without the code that is tested.
func oracle(tag string, parts ...[]byte) api.Digest {
	start := sha256.Sum256([]byte(tag))
	return sha256.Sum256(append(start[:], bytes.Join(parts, nil)...))
}

// greatestPower returns the greatest power of two less than n.
func greatestPower(n int) (k int) {
	for k = 1; 2*k < n; k *= 2 {
	}
	return k
}

// rootOf returns the root of leaves as P7.4 has it: that of the first ones with that of the others.
func rootOf(l [][]byte) api.Digest {
	switch len(l) {
	case 0:
		return oracle("none")
	case 1:
		return oracle("leaf", l[0])
	}
	k := greatestPower(len(l))
	a, b := rootOf(l[:k]), rootOf(l[k:])
	return oracle("node", a[:], b[:])
}

// pathOf returns the path of a leaf of a list that is divided as in rootOf.
func pathOf(l [][]byte, i int) []api.Digest {
	if len(l) == 1 {
		return nil
	}
	k := greatestPower(len(l))
	if i < k {
		return append(pathOf(l[:k], i), rootOf(l[k:]))
	}
	return append(pathOf(l[k:], i-k), rootOf(l[:k]))
}

// lengthOf returns the length of the path of a leaf of a list that is divided as in rootOf.
func lengthOf(n, i int) int {
	if n == 1 {
		return 0
	}
	if k := greatestPower(n); i >= k {
		return 1 + lengthOf(n-k, i-k)
	} else {
		return 1 + lengthOf(k, i)
	}
}

func anyBytes(r *rand.Rand, n int) []byte {
	b := make([]byte, n)
	for k := range b {
		b[k] = byte(r.Uint32())
	}
	return b
}

func anyDigests(r *rand.Rand, n int) (l []api.Digest) {
	for range n {
		l = append(l, api.Digest(anyBytes(r, 32)))
	}
	return l
}

func anyLeaves(r *rand.Rand, n int) (l [][]byte) {
	for range n {
		l = append(l, anyBytes(r, r.IntN(100)))
	}
	return l
}

func show(d api.Digest) string { return hex.EncodeToString(d[:]) }

// P7.1: roots that another program has computed, row by row.
func TestRoot(t *testing.T) {
	for _, x := range []struct {
		l    [][]byte
		want string
	}{
		{nil, "fc0dc92a9ee3a34bdcd9829491bb7b0c1c0195252746bd42cf69b9c2cf45fdfa"},
		{[][]byte{}, "fc0dc92a9ee3a34bdcd9829491bb7b0c1c0195252746bd42cf69b9c2cf45fdfa"},
		{[][]byte{nil}, "7e4c233b62d9e1ed6e87aa153859f5abfb8a402080a0e1345bdd6d90b13b02db"},
		{[][]byte{{}}, "7e4c233b62d9e1ed6e87aa153859f5abfb8a402080a0e1345bdd6d90b13b02db"},
		{[][]byte{make([]byte, 100)}, "59ef2dbfa30e904d31ac8088c0c7951580d64c5fd5a70b6bc2fa598a36962bd6"},
		{[][]byte{[]byte("a"), []byte("b"), []byte("c")}, "ebd130b25f1924d5889f178f3d820d4e10bcb8d5920fa53f750c143521eb52ba"},
		{counted(1), "7e4c233b62d9e1ed6e87aa153859f5abfb8a402080a0e1345bdd6d90b13b02db"},
		{counted(2), "265375cf689094575fcef4f7d7d0c91d571f8722266a398225cd2335a4f88112"},
		{counted(3), "3305060e44093b35af72ae81381e78ecf6fce45f5e52226b716b1790591406e8"},
		{counted(4), "542ee95c9269d57521a8c179771fb7b0a1e0a6fd4449ba0d9fc38be7a74725b0"},
		{counted(5), "7d6d0d6674c503b37e4d7b7e9c925e00967dec1379b95c35d537462d095c9e48"},
		{counted(6), "b133f78231df6bef50f82dc037b1559317eb0dfa9d096fc1ac0a7e2c347b469c"},
		{counted(7), "c2c4572bb29e4c9863889fe117c4615ccb6f261f6aefabcdd589b3fef4045ec2"},
		{counted(8), "26ed362ec092221b073c553e501818467aa6e649e7cdba0030836d74f33e7d2c"},
		{counted(9), "10694b96f8080d5e292e778f45af8d6f5e7c4c46566903553afc3317794a2386"},
		{counted(11), "6e6153e923be8c085665e7dd668f7d325304edb3ae0cb70bf018f55d81e8d522"},
		{counted(16), "692e6e48cea4b98f83eb420c218d6aff7c7f1f23e4e12506673693efd13734ae"},
		{counted(17), "be61f053ac067658f3b64fdba5997643ad2b768929a2b61cc2f5be0d4683de7b"},
		{numbered(32769), "81f84a723204435d945b8143e8b228fd38f2acb33b69829acd56771b2a93f112"},
		{numbered(65535), "9349a708128cdd5a24caa99e92e75697d18428e52aeb4a78da495c4a80eb1e4d"},
		{numbered(65536), "24b983e45901517b987a40ecb80ea31aecb6524625df2adfc23bcf9c3776284f"},
	} {
		if d := Root(x.l); show(d) != x.want {
			t.Error(len(x.l), show(d))
		}
	}
}

// P7.1: paths that another program has computed; their digests are in the order of the rows.
func TestProve(t *testing.T) {
	two, four := "265375cf689094575fcef4f7d7d0c91d571f8722266a398225cd2335a4f88112", "542ee95c9269d57521a8c179771fb7b0a1e0a6fd4449ba0d9fc38be7a74725b0"
	for _, x := range []struct {
		n, i int
		want []string
	}{
		{1, 0, nil},
		{2, 0, []string{"c1794b610ce2b056da4b289574401e5f63e28dbfe6ee71a41316c4b6ea598b48"}},
		{2, 1, []string{"7e4c233b62d9e1ed6e87aa153859f5abfb8a402080a0e1345bdd6d90b13b02db"}},
		{3, 2, []string{two}},
		{3, 1, []string{"7e4c233b62d9e1ed6e87aa153859f5abfb8a402080a0e1345bdd6d90b13b02db", "3a5cba1d15b093d63a121b39ac097456fd3b75490b06c5ba9b8cdadc3757f63f"}},
		{5, 4, []string{four}},
		{6, 4, []string{"16d02fa4e4e0c49f394e5ad6a09458b96f573d731aba2ce7ddd3c0e58c09eaab", four}},
		{7, 6, []string{"9ce6146c4979c56fdb2dd76f048271955edfca5dced3b2cb2ca85ddad0386e06", four}},
		{7, 2, []string{"bcb747a0a879d9285eb935321aba0757a68ed97e0d2d22074e611906e67bede2", two, "4221f2b8ad3a9b82f2da203bb0c1e0b3857ed0648f48877cee5a708ad54886e6"}},
	} {
		path, e := Prove(counted(x.n), x.i)
		var got []string
		for _, d := range path {
			got = append(got, show(d))
		}
		if e != api.OK || !slices.Equal(got, x.want) {
			t.Error(x.n, x.i, e, got)
		}
	}
}

// P7.1: a path is asked for a leaf that is there, of a list that is not too long; otherwise there is none.
func TestProveWithoutLeaf(t *testing.T) {
	for _, n := range []int{0, 1, 2, 3, 8, 65535, 65536} {
		for _, i := range []int{-1, n, n + 1, math.MinInt, math.MaxInt, math.MinInt + n} {
			if path, e := Prove(make([][]byte, n), i); e != api.ErrArg || len(path) > 0 {
				t.Error(n, i, e, path)
			}
		}
	}
	for _, n := range []int{65537, 1 << 17} {
		for _, i := range []int{-1, 0, 65535, 65536, n - 1, n} {
			if path, e := Prove(make([][]byte, n), i); e != api.ErrArg || len(path) > 0 {
				t.Error(n, i, e, path)
			}
		}
	}
}

// P7.1, P7.2, P7.3 and P7.4: all leaves of all short lists. The paths have the digests of the parts into which P7.4 divides a list, and lead to its root.
func TestShortLists(t *testing.T) {
	r := rand.New(rand.NewPCG(7, 1))
	for n := range 70 {
		l := anyLeaves(r, n)
		root := rootOf(l)
		if d := Root(l); d != root {
			t.Error(n, show(d))
		}
		for i, leaf := range l {
			path, e := Prove(l, i)
			if want := pathOf(l, i); e != api.OK || !slices.Equal(path, want) {
				t.Error(n, i, e, path)
			}
			if d, e := Climb(n, i, leaf, path); e != api.OK || d != root {
				t.Error(n, i, e, show(d))
			}
		}
	}
}

// P7.1, P7.3 and P7.4: some leaves of the longest lists; no path has more than 16 digests.
func TestLongLists(t *testing.T) {
	for _, n := range []int{1<<15 + 1, 1<<15 + 1<<14 + 3, 1 << 16} {
		l := numbered(n)
		root := rootOf(l)
		if d := Root(l); d != root {
			t.Error(n, show(d))
		}
		for _, i := range []int{n/2 + 1, n - 1} {
			path, e := Prove(l, i)
			if want := pathOf(l, i); e != api.OK || !slices.Equal(path, want) || len(path) > 16 {
				t.Error(n, i, e, path)
			}
			if d, e := Climb(n, i, l[i], path); e != api.OK || d != root {
				t.Error(n, i, e, show(d))
			}
		}
	}
}

// P7.4: a root is that of the first leaves with that of the others, also if it is Root that says so.
func TestRootOfTwoRoots(t *testing.T) {
	l := counted(130)
	for n := 2; n <= len(l); n++ {
		k := greatestPower(n)
		a, b := Root(l[:k]), Root(l[k:n])
		if d := Root(l[:n]); d != digest.Tagged("node", slices.Concat(a[:], b[:])) {
			t.Error(n, show(d))
		}
	}
}

// P7.2: Climb admits only lists that are not too long, leaves that they have, and paths that have the right length; the first two count before the third.
func TestClimbErrors(t *testing.T) {
	r := rand.New(rand.NewPCG(7, 2))
	for _, n := range []int{math.MinInt, -1, 0, 1, 2, 3, 4, 5, 6, 7, 8, 9, 31, 32, 33, 32769, 65535, 65536, 65537, math.MaxInt} {
		for _, i := range []int{math.MinInt, -1, 0, 1, 2, 3, 4, 5, 6, 7, 8, 30, 31, 32, 32768, 65534, 65535, 65536, n - 1, math.MaxInt} {
			for length := range 19 {
				want := api.ErrArg
				if n <= 65536 && i >= 0 && i < n {
					want = api.ErrPath
					if length == lengthOf(n, i) {
						want = api.OK
					}
				}
				d, e := Climb(n, i, []byte("leaf"), anyDigests(r, length))
				if e != want || e != api.OK && d != (api.Digest{}) {
					t.Error(n, i, length, e, show(d))
				}
			}
		}
	}
}

// P7.2: Climb goes on from any leaf with any path, as if it were that of a list; each byte counts, and the place.
func TestClimb(t *testing.T) {
	a, b := []byte("a"), []byte("b")
	da, db := oracle("leaf", a), oracle("leaf", b)
	for _, x := range []struct {
		n, i int
		path []api.Digest
		want api.Digest
	}{
		{1, 0, nil, da},
		{1, 0, []api.Digest{}, da},
		{2, 0, []api.Digest{db}, oracle("node", da[:], db[:])},
		{2, 1, []api.Digest{db}, oracle("node", db[:], da[:])},
		{3, 2, []api.Digest{db}, oracle("node", db[:], da[:])},
		{5, 4, []api.Digest{{}}, oracle("node", make([]byte, 32), da[:])},
	} {
		if d, e := Climb(x.n, x.i, a, x.path); e != api.OK || d != x.want {
			t.Error(x.n, x.i, e, show(d))
		}
	}
	if d, e := Climb(1, 0, nil, nil); e != api.OK || d != oracle("leaf") {
		t.Error(e, show(d))
	}
	l := counted(7)
	path, _ := Prove(l, 2)
	seen := map[api.Digest]bool{Root(l): true}
	for k := range path {
		for at := range 32 {
			other := slices.Clone(path)
			other[k][at] ^= 1
			d, e := Climb(7, 2, l[2], other)
			if e != api.OK || seen[d] {
				t.Error(k, at, e, show(d))
			}
			seen[d] = true
		}
	}
	for _, x := range []struct{ n, i int }{{7, 3}, {7, 4}, {7, 0}, {8, 1}} {
		if d, e := Climb(x.n, x.i, l[2], path); e != api.OK || seen[d] {
			t.Error(x.n, x.i, e, show(d))
		}
	}
}

// P7.2: Climb with any leaves and paths of lists of all lengths, row by row.
func TestClimbByRows(t *testing.T) {
	r := rand.New(rand.NewPCG(7, 3))
	for range 300 {
		n := 1 + r.IntN(65536)
		i := r.IntN(n)
		leaf, path := anyBytes(r, r.IntN(200)), anyDigests(r, lengthOf(n, i))
		want, k := oracle("leaf", leaf), 0
		for at, size := i, n; size > 1; at, size = at/2, (size+1)/2 {
			if at%2 == 1 {
				want = oracle("node", path[k][:], want[:])
				k++
			} else if at+1 < size {
				want = oracle("node", want[:], path[k][:])
				k++
			}
		}
		if d, e := Climb(n, i, leaf, path); e != api.OK || d != want || k != len(path) {
			t.Error(n, i, e, show(d))
		}
	}
}

// R2: arguments and earlier results stay as they are, also the memory behind them.
func TestPurity(t *testing.T) {
	memory := []byte("leaves and what follows")
	l := [][]byte{memory[:4], memory[4:4], memory[:10], memory[11:15], memory[3:9], memory[20:22]}
	kept := slices.Clone(l)
	first, _ := Prove(l[:5], 2)
	path := slices.Clone(first)
	digests := append(slices.Clone(first), api.Digest{1}, api.Digest{2})
	Root(l[:5])
	Prove(l[:5], 4)
	if d, e := Climb(5, 2, l[2], digests[:3]); e != api.OK || d != Root(l[:5]) {
		t.Error(e, show(d))
	}
	Collide(5, 2, l[2], l[0], digests[:3], digests[1:4])
	if string(memory) != "leaves and what follows" || !slices.EqualFunc(l, kept, bytes.Equal) {
		t.Error(string(memory), l)
	}
	if !slices.Equal(first, path) || !slices.Equal(digests, append(path, api.Digest{1}, api.Digest{2})) {
		t.Error(first, digests)
	}
}
