package merkle

import (
	"bytes"
	"crypto/sha256"
	"encoding/json"
	"math/rand/v2"
	"os"
	"os/exec"
	"path/filepath"
	"slices"
	"strings"
	"testing"

	"hansard/api"
	"hansard/digest"
)

// isWeak says that digest is the one of TestCollideWithWeakDigest, for which it is easy to find collisions.
func isWeak() bool { return digest.Sum(nil) != sha256.Sum256(nil) }

// P7.2, P7.3: with different roots, with errors and with equal leaves Collide returns nothing. Nobody knows two texts with one digest, so that it never returns any here.
func TestCollideReturnsNothing(t *testing.T) {
	if isWeak() {
		t.Skip("there are collisions")
	}
	l := counted(7)
	for i, leaf := range l {
		p, _ := Prove(l, i)
		short, long := p[1:], append(slices.Clone(p), api.Digest{})
		for _, x := range []struct {
			n, i int
			a, b []byte
			p, q []api.Digest
		}{
			{7, i, leaf, leaf, p, p},
			{7, i, leaf, append(slices.Clone(leaf), 1), p, p},
			{7, i, append(slices.Clone(leaf), 1), leaf, p, p},
			{7, i, leaf, leaf, short, short},
			{7, i, leaf, []byte("x"), short, short},
			{7, i, leaf, []byte("x"), p, short},
			{7, i, leaf, []byte("x"), short, p},
			{7, i, leaf, []byte("x"), long, long},
			{7, -1, leaf, []byte("x"), p, p},
			{7, 7, leaf, []byte("x"), p, p},
			{65537, i, leaf, []byte("x"), p, p},
			{0, 0, leaf, []byte("x"), nil, nil},
			{1, 0, leaf, []byte("x"), nil, nil},
			{1, 0, nil, []byte{}, nil, []api.Digest{}},
		} {
			if x, y, ok := Collide(x.n, x.i, x.a, x.b, x.p, x.q); ok || len(x) > 0 || len(y) > 0 {
				t.Error(i, x, y, ok)
			}
		}
	}
}

// weakDigest is a package digest that has 16 digests only.
const weakDigest = `package digest

import "hansard/api"

func Sum(b []byte) (d api.Digest) {
	h := uint32(2166136261)
	for _, x := range b {
		h = (h ^ uint32(x)) * 16777619
	}
	d[7] = byte(h >> 28)
	return d
}

func Tagged(tag string, b []byte) (d api.Digest) {
	start := Sum([]byte(tag))
	return Sum(append(start[:], b...))
}
`

// P7.2, P7.3 and P7.4: what Collide returns can be seen only where collisions are known. So this test runs TestCollisions with another package digest in the place of the real one.
func TestCollideWithWeakDigest(t *testing.T) {
	if isWeak() {
		t.Skip("digest is weak already")
	}
	files, err := filepath.Glob(filepath.Join("..", "digest", "*.go"))
	if err != nil || len(files) == 0 {
		t.Fatal(files, err)
	}
	weak := filepath.Join(t.TempDir(), "weak.go")
	write(t, weak, []byte(weakDigest))
	replace := map[string]string{}
	for _, file := range files {
		path, err := filepath.Abs(file)
		if err != nil {
			t.Fatal(err)
		}
		replace[path] = ""
		if filepath.Base(file) == "digest.go" {
			replace[path] = weak
		}
	}
	overlay, err := json.Marshal(map[string]any{"Replace": replace})
	if err != nil {
		t.Fatal(err)
	}
	file := filepath.Join(t.TempDir(), "overlay.json")
	write(t, file, overlay)
	out, err := exec.Command("go", "test", "-count=1", "-v", "-run", "^TestCollisions$", "-overlay", file, ".").CombinedOutput()
	if err != nil || !strings.Contains(string(out), "--- PASS: TestCollisions") {
		t.Error(err, string(out))
	}
}

func write(t *testing.T, file string, b []byte) {
	t.Helper()
	if err := os.WriteFile(file, b, 0o600); err != nil {
		t.Fatal(err)
	}
}

// row is what a way has in a row: its digest, and the text of which this is digest.Sum; no text, where the digest was left alone.
type row struct {
	text []byte
	d    api.Digest
}

// wayOf returns what a way has in each row. There is a digest of the path for each row in which it is not left alone.
func wayOf(n, i int, leaf []byte, path []api.Digest) (l []row) {
	tag := func(tag string, parts ...[]byte) row {
		start := digest.Sum([]byte(tag))
		text := slices.Concat(start[:], bytes.Join(parts, nil))
		return row{text, digest.Sum(text)}
	}
	l = append(l, tag("leaf", leaf))
	for ; n > 1; n, i = (n+1)/2, i/2 {
		own := l[len(l)-1].d
		switch {
		case i%2 == 1:
			l = append(l, tag("node", path[0][:], own[:]))
			path = path[1:]
		case i+1 < n:
			l = append(l, tag("node", own[:], path[0][:]))
			path = path[1:]
		default:
			l = append(l, row{nil, own})
		}
	}
	return l
}

// collideOf does what Collide does with the ways of two leaves whose arguments have no errors, and returns the row.
func collideOf(v, w []row, same bool) (x, y []byte, at int) {
	last := len(v) - 1
	if same || v[last].d != w[last].d {
		return nil, nil, -1
	}
	at = last
	for k := last; k >= 0; k-- {
		if v[k].d == w[k].d {
			at = k
		}
	}
	return v[at].text, w[at].text, at
}

// P7.2, P7.3 and P7.4, where collisions are known (see TestCollideWithWeakDigest): whenever two different leaves lead to one root, Collide returns two different texts with the same digest.Sum, and it is those of the first row with the same digest.
func TestCollisions(t *testing.T) {
	if !isWeak() {
		t.Skip("no collisions are known")
	}
	r := rand.New(rand.NewPCG(7, 4))
	var rows [18]int
	for range 300000 {
		n := 1 + r.IntN(1<<(1+r.IntN(16)))
		i := r.IntN(n)
		if r.IntN(4) == 0 {
			i = n - 1
		}
		a, b := anyBytes(r, r.IntN(3)), anyBytes(r, r.IntN(3))
		p, q := weakPath(r, lengthOf(n, i)), weakPath(r, lengthOf(n, i))
		v, w := wayOf(n, i, a, p), wayOf(n, i, b, q)
		wantX, wantY, at := collideOf(v, w, bytes.Equal(a, b))
		x, y, ok := Collide(n, i, a, b, p, q)
		if ok != (at >= 0) || !bytes.Equal(x, wantX) || !bytes.Equal(y, wantY) {
			t.Fatal(n, i, a, b, p, q, x, y, ok)
		}
		if ok && (bytes.Equal(x, y) || digest.Sum(x) != digest.Sum(y)) {
			t.Fatal(n, i, a, b, p, q, x, y)
		}
		rows[at+1]++
	}
	for at, times := range rows {
		if times == 0 {
			t.Error("no way of both meets first in the row", at-1, rows)
		}
	}
	wrongCollisions(t)
	pureCollisions(t)
}

// weakPath returns digests that weakDigest can have.
func weakPath(r *rand.Rand, n int) (path []api.Digest) {
	for range n {
		path = append(path, api.Digest{7: byte(r.IntN(16))})
	}
	return path
}

// wrongCollisions checks that collisions do not count where Climb returns an error.
func wrongCollisions(t *testing.T) {
	t.Helper()
	a, b := []byte{0}, []byte{1}
	for digest.Tagged("leaf", a) != digest.Tagged("leaf", b) {
		b = append(b, 1)
	}
	one := []api.Digest{{}}
	if x, y, ok := Collide(2, 0, a, b, one, one); !ok || !bytes.HasSuffix(x, a) || !bytes.HasSuffix(y, b) {
		t.Error(x, y, ok)
	}
	zero := []byte{0}
	for digest.Tagged("leaf", zero) != (api.Digest{}) {
		zero = append(zero, 1)
	}
	for k, x := range []struct {
		n, i int
		a, b []byte
		p, q []api.Digest
	}{
		{2, 0, a, b, one, nil},
		{2, 0, a, b, nil, one},
		{2, 0, a, b, nil, nil},
		{1, 0, a, b, one, one},
		{1, 0, a, b, nil, one},
		{2, 2, a, b, one, one},
		{2, -1, a, b, one, one},
		{0, 0, a, b, nil, nil},
		{65537, 0, a, b, nil, nil},
		{65537, 65536, a, b, one, one},
		// The digest that comes with the error is the root of the other leaf.
		{1, 0, zero, a, nil, one},
		{1, 0, a, zero, one, nil},
	} {
		if x, y, ok := Collide(x.n, x.i, x.a, x.b, x.p, x.q); ok || len(x) > 0 || len(y) > 0 {
			t.Error(k, x, y, ok)
		}
	}
}

// pureCollisions checks that arguments stay as they are where there is a collision, also the memory behind them (R2).
func pureCollisions(t *testing.T) {
	t.Helper()
	for first := range byte(16) {
		memory := []byte{first, 1, 2, 3, first ^ 1, 1, 2, 3}
		p, q := []api.Digest{{7: 1}, {7: 2}, {7: 3}}, []api.Digest{{7: 4}, {7: 5}, {7: 6}}
		for k := range 256 {
			p[0][7], q[0][7] = byte(k/16), byte(k%16)
			x, y, ok := Collide(2, 0, memory[:1], memory[4:5], p[:1], q[:1])
			if ok {
				slices.Sort(x)
				slices.Sort(y)
			}
		}
		if !bytes.Equal(memory, []byte{first, 1, 2, 3, first ^ 1, 1, 2, 3}) || p[1][7] != 2 || q[1][7] != 5 {
			t.Error(memory, p, q)
		}
	}
}
