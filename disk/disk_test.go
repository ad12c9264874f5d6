package disk

import (
	"bytes"
	"math"
	"math/rand/v2"
	"slices"
	"testing"

	"hansard/api"
)

// filled returns n equal bytes.
func filled(n int, b byte) []byte { return bytes.Repeat([]byte{b}, n) }

// padded returns a sector of n equal bytes with zero bytes after them.
func padded(n int, b byte) []byte { return append(filled(n, b), make([]byte, 128-n)...) }

// halves returns a sector of 64 bytes a and 64 bytes b.
func halves(a, b byte) []byte { return append(filled(64, a), filled(64, b)...) }

// numbered returns a disk that does not stop, whose sectors are filled with the numbers from 1 on.
func numbered(n int) api.Disk {
	d := api.Disk{Left: -1}
	for i := range n {
		d.Sectors = append(d.Sectors, filled(128, byte(i+1)))
	}
	return d
}

// zeros returns the disk of so many sectors of zero bytes.
func zeros(n int) api.Disk {
	d := numbered(n)
	for i := range d.Sectors {
		d.Sectors[i] = make([]byte, 128)
	}
	return d
}

// pending returns d with a write to each of the sectors, of which the one with the index k writes bytes 100 + k.
func pending(d api.Disk, sectors ...int) api.Disk {
	for k, at := range sectors {
		d.Pending = append(d.Pending, api.Write{At: at, Data: filled(128, byte(100+k))})
	}
	return d
}

func left(d api.Disk, n int) api.Disk { d.Left = n; return d }

func stopped(d api.Disk) api.Disk { d.Stopped = true; return d }

func same(a, b api.Disk) bool {
	return slices.EqualFunc(a.Sectors, b.Sectors, bytes.Equal) && a.Left == b.Left && a.Stopped == b.Stopped &&
		slices.EqualFunc(a.Pending, b.Pending, func(v, w api.Write) bool { return v.At == w.At && bytes.Equal(v.Data, w.Data) })
}

func isZero(d api.Disk) bool { return same(d, api.Disk{}) }

// deepCopy returns a disk that shares no memory with d.
func deepCopy(d api.Disk) api.Disk {
	c := api.Disk{Left: d.Left, Stopped: d.Stopped}
	for _, s := range d.Sectors {
		c.Sectors = append(c.Sectors, bytes.Clone(s))
	}
	for _, w := range d.Pending {
		c.Pending = append(c.Pending, api.Write{At: w.At, Data: bytes.Clone(w.Data)})
	}
	return c
}

// resized returns d with another sector at.
func resized(d api.Disk, at int, s []byte) api.Disk {
	d = deepCopy(d)
	d.Sectors[at] = s
	return d
}

func writes(d api.Disk, l ...api.Write) api.Disk { d.Pending = l; return d }

var validDisks = []struct {
	name string
	d    api.Disk
}{
	{"one sector", numbered(1)},
	{"4096 sectors", zeros(4096)},
	{"empty Pending", writes(numbered(2), []api.Write{}...)},
	{"a write to each sector", pending(numbered(3), 0, 1, 2, 0)},
	{"4096 writes", pending(numbered(2), slices.Repeat([]int{1, 0}, 2048)...)},
	{"Left 0", left(pending(numbered(2), 1), 0)},
	{"Left 65536", left(numbered(2), 65536)},
	{"more Left than writes", left(pending(numbered(2), 1), 5)},
	{"a stopped disk", stopped(left(numbered(2), 0))},
	{"a stopped disk with writes that does not stop", stopped(pending(numbered(2), 1))},
}

var wrongDisks = []struct {
	name string
	d    api.Disk
}{
	{"the zero disk", api.Disk{}},
	{"no sectors", api.Disk{Left: -1}},
	{"an empty list of sectors", api.Disk{Sectors: [][]byte{}, Left: -1}},
	{"4097 sectors", zeros(4097)},
	{"no bytes", resized(numbered(1), 0, nil)},
	{"a short first sector", resized(numbered(3), 0, filled(127, 1))},
	{"a short last sector", resized(numbered(3), 2, filled(127, 1))},
	{"a long sector", resized(numbered(3), 1, filled(129, 1))},
	{"two sectors in one", resized(numbered(3), 1, filled(256, 1))},
	{"4097 writes", pending(numbered(1), make([]int, 4097)...)},
	{"a write before the first sector", pending(numbered(2), 0, -1)},
	{"a write behind the last sector", pending(numbered(2), 2, 0)},
	{"a write far away", pending(numbered(2), math.MaxInt)},
	{"a write far before", pending(numbered(2), math.MinInt)},
	{"a write of no bytes", writes(numbered(2), api.Write{At: 1})},
	{"a write of few bytes", writes(numbered(2), api.Write{At: 1, Data: filled(127, 1)})},
	{"a write of many bytes", writes(numbered(2), api.Write{Data: filled(128, 1)}, api.Write{Data: filled(129, 1)})},
	{"Left -2", left(numbered(2), -2)},
	{"Left 65537", left(numbered(2), 65537)},
	{"the least Left", left(numbered(2), math.MinInt)},
	{"the greatest Left", left(numbered(2), math.MaxInt)},
	{"a stopped disk without sectors", stopped(left(numbered(0), 0))},
}

// P4.1: a new disk has sectors of zero bytes and does not stop; the number of sectors is from 1 to 4096.
func TestNew(t *testing.T) {
	for _, n := range []int{1, 2, 3, 100, 4095, 4096} {
		if d, e := New(n); e != api.OK || !same(d, zeros(n)) || Check(d) != api.OK {
			t.Error(n, e, len(d.Sectors), d.Left, d.Stopped)
		}
	}
	for _, n := range []int{0, -1, 4097, math.MinInt, math.MaxInt, 1 << 32, 1<<32 + 1} {
		if d, e := New(n); e != api.ErrArg || !isZero(d) {
			t.Error(n, e, len(d.Sectors))
		}
	}
}

// P4.1: a disk is valid if its sectors, writes and Left are, whether it has stopped or not.
func TestCheck(t *testing.T) {
	for _, x := range validDisks {
		if e := Check(x.d); e != api.OK {
			t.Error(x.name, e)
		}
	}
	for _, x := range wrongDisks {
		if e := Check(x.d); e != api.ErrDisk {
			t.Error(x.name, e)
		}
	}
}

// P4.2, P4.3: a disk that is not valid leads to ErrDisk and to no other result, also together with wrong arguments.
func TestWrongDisks(t *testing.T) {
	for _, x := range wrongDisks {
		for _, n := range []int{-1, 0, 1, 70000} {
			if b, e := Read(x.d, n); e != api.ErrDisk || len(b) > 0 {
				t.Error(x.name, "Read", n, e, b)
			}
			if d, e := Stop(x.d, n); e != api.ErrDisk || !isZero(d) {
				t.Error(x.name, "Stop", n, e)
			}
			for _, b := range [][]byte{nil, filled(128, 1), filled(129, 1)} {
				if d, e := Write(x.d, n, b); e != api.ErrDisk || !isZero(d) {
					t.Error(x.name, "Write", n, len(b), e)
				}
			}
		}
		if d, e := Sync(x.d); e != api.ErrDisk || !isZero(d) {
			t.Error(x.name, "Sync", e)
		}
	}
}

// P4.2, P4.3: a disk that has stopped leads to ErrDisk and to no other result, whether writes are pending or not.
func TestStoppedDisks(t *testing.T) {
	for i, d := range []api.Disk{
		stopped(left(numbered(2), 0)), stopped(numbered(2)), stopped(pending(numbered(2), 0, 1)), stopped(left(pending(numbered(2), 0), 0)),
		stopped(left(numbered(2), 9)), stopped(pending(numbered(2), make([]int, 4096)...)),
	} {
		for _, n := range []int{-1, 0, 1, 2, 65537} {
			if b, e := Read(d, n); e != api.ErrDisk || len(b) > 0 {
				t.Error(i, "Read", n, e, b)
			}
			if x, e := Stop(d, n); e != api.ErrDisk || !isZero(x) {
				t.Error(i, "Stop", n, e)
			}
			for _, length := range []int{0, 128, 129} {
				if x, e := Write(d, n, filled(length, 1)); e != api.ErrDisk || !isZero(x) {
					t.Error(i, "Write", n, length, e)
				}
			}
		}
		if x, e := Sync(d); e != api.ErrDisk || !isZero(x) {
			t.Error(i, "Sync", e)
		}
	}
}

// P4.1: Restart keeps the sectors of any disk, and nothing else.
func TestRestart(t *testing.T) {
	for _, l := range [][]struct {
		name string
		d    api.Disk
	}{validDisks, wrongDisks} {
		for _, x := range l {
			if d := Restart(x.d); !same(d, api.Disk{Sectors: x.d.Sectors, Left: -1}) {
				t.Error(x.name, len(d.Sectors), len(d.Pending), d.Left, d.Stopped)
			}
		}
	}
	if d := Restart(api.Disk{}); len(d.Sectors) > 0 || len(d.Pending) > 0 || d.Left != -1 || d.Stopped {
		t.Error("the zero disk", d)
	}
}

// P4.1: writes that were not synced are lost.
func TestRestartLosesWrites(t *testing.T) {
	d, e := Write(numbered(2), 1, []byte("lost"))
	b, f := Read(Restart(d), 1)
	if e != api.OK || f != api.OK || !bytes.Equal(b, filled(128, 2)) {
		t.Error(e, f, b)
	}
}

// P4.2: Read returns the last write to the sector, wherever it is in Pending, or the sector.
func TestRead(t *testing.T) {
	d := pending(numbered(5), 0, 1, 0, 3, 1, 1)
	for _, left := range []int{-1, 0, 3, 65536} {
		d.Left = left
		for at, want := range []byte{102, 105, 3, 103, 5} {
			if b, e := Read(d, at); e != api.OK || !bytes.Equal(b, filled(128, want)) {
				t.Error(left, at, e, b)
			}
		}
	}
	for _, at := range []int{-1, 5, 6, 4096, math.MinInt, math.MaxInt} {
		if b, e := Read(d, at); e != api.ErrDisk || len(b) > 0 {
			t.Error(at, e, b)
		}
	}
	if b, e := Read(numbered(1), 1); e != api.ErrDisk || len(b) > 0 {
		t.Error("one sector", e, b)
	}
}

// P4.2: Write puts a write behind the others, with zero bytes after those that are given, and changes nothing else.
func TestWrite(t *testing.T) {
	for _, d := range []api.Disk{numbered(3), pending(numbered(3), 2, 0, 1), left(numbered(3), 0), left(pending(numbered(3), 1), 65536)} {
		for _, n := range []int{0, 1, 63, 64, 65, 127, 128} {
			for at := range 3 {
				x, e := Write(d, at, filled(n, 7))
				want := deepCopy(d)
				want.Pending = append(want.Pending, api.Write{At: at, Data: padded(n, 7)})
				if e != api.OK || !same(x, want) || Check(x) != api.OK {
					t.Error(n, at, e, x.Pending)
				}
				if b, e := Read(x, at); e != api.OK || !bytes.Equal(b, padded(n, 7)) {
					t.Error(n, at, e, b)
				}
			}
		}
	}
	if x, e := Write(numbered(1), 0, nil); e != api.OK || !same(x, writes(numbered(1), api.Write{Data: make([]byte, 128)})) {
		t.Error("no bytes", e)
	}
}

// P4.2: a place that is no sector is wrong before the bytes are, and these before there are too many writes.
func TestWriteErrors(t *testing.T) {
	full := pending(numbered(2), make([]int, 4096)...)
	for _, x := range []struct {
		name  string
		d     api.Disk
		at, n int
		e     api.Errno
	}{
		{"129 bytes", numbered(1), 0, 129, api.ErrArg},
		{"many bytes", numbered(1), 0, 100000, api.ErrArg},
		{"before the first sector", numbered(2), -1, 5, api.ErrDisk},
		{"behind the last sector", numbered(2), 2, 5, api.ErrDisk},
		{"far away", numbered(2), math.MaxInt, 5, api.ErrDisk},
		{"far before", numbered(2), math.MinInt, 5, api.ErrDisk},
		{"129 bytes behind the last sector", numbered(2), 2, 129, api.ErrDisk},
		{"4096 writes", full, 1, 5, api.ErrLimit},
		{"4096 writes and no bytes", full, 1, 0, api.ErrLimit},
		{"4096 writes and 129 bytes", full, 1, 129, api.ErrArg},
		{"4096 writes and a wrong place", full, 2, 5, api.ErrDisk},
		{"4095 writes", pending(numbered(2), make([]int, 4095)...), 1, 5, api.OK},
	} {
		if d, e := Write(x.d, x.at, filled(x.n, 1)); e != x.e || e != api.OK && !isZero(d) {
			t.Error(x.name, e)
		}
	}
}

// P4.3: all writes are performed in order if enough are left, and Left is diminished by their number unless it is -1.
func TestSync(t *testing.T) {
	after := numbered(4)
	after.Sectors = [][]byte{filled(128, 103), filled(128, 102), filled(128, 3), filled(128, 101)}
	for before, want := range map[int]int{-1: -1, 4: 0, 5: 1, 100: 96, 65536: 65532} {
		if x, e := Sync(left(pending(numbered(4), 0, 3, 1, 0), before)); e != api.OK || !same(x, left(after, want)) {
			t.Error(before, e, x)
		}
	}
	for _, n := range []int{-1, 0, 1, 65536} {
		if x, e := Sync(left(numbered(4), n)); e != api.OK || !same(x, left(numbered(4), n)) {
			t.Error(n, "no writes", e, x)
		}
	}
}

// P4.3: a disk with too little Left performs so many writes and half of the next one, is returned with ErrDisk, and has stopped.
func TestSyncStops(t *testing.T) {
	for n, want := range [][][]byte{
		{halves(100, 1), filled(128, 2), filled(128, 3)},
		{filled(128, 100), filled(128, 2), halves(101, 3)},
		{halves(102, 100), filled(128, 2), filled(128, 101)},
		{filled(128, 102), filled(128, 2), halves(103, 101)},
	} {
		x, e := Sync(left(pending(numbered(3), 0, 2, 0, 2), n))
		if e != api.ErrDisk || !same(x, api.Disk{Sectors: want, Stopped: true}) {
			t.Error(n, e, x)
		}
	}
}

// P4.3: of a torn sector, the bytes 0 to 63 are new, also if the bytes that were written are shorter than half of it.
func TestTornSector(t *testing.T) {
	for n := range 129 {
		d, e := Write(left(numbered(1), 0), 0, filled(n, 9))
		x, f := Sync(d)
		want := append(padded(n, 9)[:64:64], filled(64, 1)...)
		if e != api.OK || f != api.ErrDisk || !bytes.Equal(x.Sectors[0], want) || !x.Stopped || x.Left != 0 || len(x.Pending) > 0 {
			t.Error(n, e, f, x)
		}
	}
}

// P4.3: a disk that has stopped performs nothing more until it is restarted; then it works again.
func TestAfterStop(t *testing.T) {
	x, _ := Sync(left(pending(numbered(2), 0, 1), 1))
	if y, e := Sync(x); e != api.ErrDisk || !isZero(y) {
		t.Error("Sync", e, y)
	}
	if b, e := Read(x, 0); e != api.ErrDisk || len(b) > 0 {
		t.Error("Read", e, b)
	}
	if Check(x) != api.OK {
		t.Error("Check")
	}
	y := Restart(x)
	b, e := Read(y, 1)
	if e != api.OK || !bytes.Equal(b, halves(101, 2)) || y.Left != -1 || y.Stopped {
		t.Error("Restart", e, b, y.Left, y.Stopped)
	}
	y, e = Sync(pending(y, 1, 1, 1))
	if e != api.OK || !bytes.Equal(y.Sectors[1], filled(128, 102)) || !bytes.Equal(y.Sectors[0], filled(128, 100)) {
		t.Error("Sync of the restarted disk", e, y)
	}
}

// P4.3: Stop sets Left, from 0 to 65536, and nothing else; it can be set again.
func TestStop(t *testing.T) {
	for _, d := range []api.Disk{numbered(2), pending(numbered(2), 1, 0), left(numbered(2), 7), left(pending(numbered(2), 1), 0)} {
		for _, n := range []int{0, 1, 2, 65535, 65536} {
			if x, e := Stop(d, n); e != api.OK || !same(x, left(d, n)) || Check(x) != api.OK {
				t.Error(n, e, x)
			}
		}
		for _, n := range []int{-1, -2, 65537, math.MinInt, math.MaxInt, 1 << 32} {
			if x, e := Stop(d, n); e != api.ErrArg || !isZero(x) {
				t.Error(n, e, x)
			}
		}
	}
}

// model is a disk without the code that is tested: all writes since the start, and which of them are performed.
type model struct {
	sectors [][]byte
	waiting []api.Write
	left    int
	stopped bool
}

// put puts the first n bytes of a write into its sector.
func (m *model) put(w api.Write, n int) {
	for i := range n {
		m.sectors[w.At][i] = w.Data[i]
	}
}

func (m *model) sync() {
	for _, w := range m.waiting {
		if m.left == 0 {
			m.put(w, 64)
			m.stopped = true
			break
		}
		m.put(w, 128)
		if m.left > 0 {
			m.left--
		}
	}
	m.waiting = nil
}

func (m *model) disk() api.Disk {
	return deepCopy(api.Disk{Sectors: m.sectors, Pending: m.waiting, Left: m.left, Stopped: m.stopped})
}

// anyBytes returns up to 128 bytes.
func anyBytes(r *rand.Rand) []byte {
	b := make([]byte, r.IntN(129))
	for i := range b {
		b[i] = byte(r.Uint32())
	}
	return b
}

// move does the same to a disk and to a model, and returns the disk.
func move(t *testing.T, r *rand.Rand, d api.Disk, m *model) api.Disk {
	x, e, want := d, api.OK, api.OK
	if m.stopped {
		want = api.ErrDisk
	}
	switch kind := r.IntN(10); {
	case kind < 6:
		at, b := r.IntN(len(m.sectors)), anyBytes(r)
		x, e = Write(d, at, b)
		if !m.stopped {
			m.waiting = append(m.waiting, api.Write{At: at, Data: append(b, make([]byte, 128-len(b))...)})
		}
	case kind < 8:
		x, e = Sync(d)
		if !m.stopped {
			if m.sync(); m.stopped {
				want = api.ErrDisk
				d = x
			}
		}
	case kind < 9:
		n := r.IntN(6)
		x, e = Stop(d, n)
		if !m.stopped {
			m.left = n
		}
	default:
		x = Restart(d)
		m.waiting, m.left, m.stopped, want = nil, -1, false, api.OK
	}
	if e != want {
		t.Error(e, want)
	}
	if e != api.OK {
		return d
	}
	return x
}

// P4.4: whatever is done, the disk stays valid, and it reads what the model says was written last.
func TestModel(t *testing.T) {
	r := rand.New(rand.NewPCG(4, 4))
	for range 300 {
		n := 1 + r.IntN(4)
		d, _ := New(n)
		m := &model{sectors: zeros(n).Sectors, left: -1}
		for range 40 {
			d = move(t, r, d, m)
			if Check(d) != api.OK || !same(d, m.disk()) {
				t.Fatal(d, m)
			}
			for at := range n {
				want := m.sectors[at]
				for _, w := range m.waiting {
					if w.At == at {
						want = w.Data
					}
				}
				if b, e := Read(d, at); !m.stopped && (e != api.OK || !bytes.Equal(b, want)) {
					t.Fatal(at, e, b)
				}
			}
		}
	}
}

// P4.4: reading returns what was written last, before and after a sync.
func TestReadBeforeAndAfterSync(t *testing.T) {
	r := rand.New(rand.NewPCG(5, 5))
	d, _ := New(8)
	last := zeros(8).Sectors
	for range 200 {
		at, b := r.IntN(8), anyBytes(r)
		d, _ = Write(d, at, b)
		last[at] = append(b, make([]byte, 128-len(b))...)
		synced, e := Sync(d)
		for i, want := range last {
			before, f := Read(d, i)
			after, g := Read(synced, i)
			if e != api.OK || f != api.OK || g != api.OK || !bytes.Equal(before, want) || !bytes.Equal(after, want) {
				t.Fatal(i, e, f, g)
			}
		}
		if r.IntN(5) == 0 {
			d = synced
		}
	}
}

// P4.4: wherever a sync stops, a beginning of the writes and half of the next one are performed; other sectors keep what was synced.
func TestStopAnywhere(t *testing.T) {
	r := rand.New(rand.NewPCG(6, 6))
	for range 100 {
		d := numbered(6)
		for range 1 + r.IntN(10) {
			d, _ = Write(d, r.IntN(6), anyBytes(r))
		}
		for n := range d.Pending {
			want := numbered(6).Sectors
			for _, w := range d.Pending[:n] {
				want[w.At] = bytes.Clone(w.Data)
			}
			next := d.Pending[n]
			copy(want[next.At], next.Data[:64])
			set, e := Stop(d, n)
			x, f := Sync(set)
			if e != api.OK || f != api.ErrDisk || !same(Restart(x), api.Disk{Sectors: want, Left: -1}) || Check(x) != api.OK {
				t.Fatal(n, e, f, x)
			}
		}
	}
}

// P4.4: writes that are synced one by one, or in any parts, make the disk that they make together.
func TestOneByOne(t *testing.T) {
	r := rand.New(rand.NewPCG(7, 7))
	for range 200 {
		many := r.IntN(12)
		start := numbered(4)
		if r.IntN(2) == 0 {
			start.Left = many + r.IntN(3)
		}
		together, single, parts := start, start, start
		for range many {
			at, b := r.IntN(4), anyBytes(r)
			together, _ = Write(together, at, b)
			single, _ = Write(single, at, b)
			single, _ = Sync(single)
			parts, _ = Write(parts, at, b)
			if r.IntN(3) == 0 {
				parts, _ = Sync(parts)
			}
		}
		x, e := Sync(together)
		y, f := Sync(parts)
		if e != api.OK || f != api.OK || !same(x, single) || !same(x, y) {
			t.Fatal(e, f, x, single, y)
		}
	}
}

// P4.4: a disk that does not stop takes more than 4096 writes if they are synced in between.
func TestManyWrites(t *testing.T) {
	d, _ := New(4096)
	for i := range 4096 {
		var e api.Errno
		if d, e = Write(d, i, []byte{byte(i), byte(i >> 8)}); e != api.OK {
			t.Fatal(i, e)
		}
	}
	if _, e := Write(d, 0, nil); e != api.ErrLimit {
		t.Error("4097 writes", e)
	}
	d, e := Sync(d)
	if _, f := Write(d, 0, nil); e != api.OK || f != api.OK {
		t.Error(e, f)
	}
	for i, s := range d.Sectors {
		if s[0] != byte(i) || s[1] != byte(i>>8) || !bytes.Equal(s[2:], make([]byte, 126)) {
			t.Fatal(i, s)
		}
	}
}

// Calls leave their arguments alone, also the memory behind them, and what they returned is not changed by later ones.
func TestPurity(t *testing.T) {
	d := pending(numbered(3), 0, 1)
	d.Pending = append(make([]api.Write, 0, 10), d.Pending...)
	b := filled(128, 50)
	first, _ := Write(d, 2, b)
	kept := deepCopy(first)
	second, _ := Write(d, 2, filled(128, 51))
	disks := []api.Disk{d, first, second}
	copies := []api.Disk{deepCopy(d), kept, deepCopy(second)}
	for _, x := range slices.Clone(disks) {
		for n := range 4 {
			set, _ := Stop(x, n)
			torn, _ := Sync(set)
			again, _ := Write(Restart(torn), 0, b)
			again, _ = Sync(again)
			disks = append(disks, set, torn, again)
			copies = append(copies, deepCopy(set), deepCopy(torn), deepCopy(again))
		}
		whole, _ := Sync(x)
		more, _ := Stop(pending(whole, 0, 1, 2), 1)
		Sync(more)
		disks, copies = append(disks, whole), append(copies, deepCopy(whole))
	}
	for i := range disks {
		if !same(disks[i], copies[i]) {
			t.Error(i, "changed", disks[i], copies[i])
		}
	}
	if spare := d.Pending[:3][2]; spare.At != 0 || spare.Data != nil {
		t.Error("memory behind the writes", spare)
	}
	b[0] = 0
	if !same(first, kept) {
		t.Error("the bytes are kept that were passed")
	}
	read, _ := Read(first, 2)
	read[0] = 0
	if !same(first, kept) {
		t.Error("bytes that were read are those of the disk")
	}
}
