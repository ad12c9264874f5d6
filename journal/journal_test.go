package journal

import (
	"bytes"
	"encoding/binary"
	"hash/crc32"
	"math"
	"math/rand/v2"
	"slices"
	"strings"
	"testing"

	"hansard/api"
	"hansard/disk"
)

// The values of byte 10 of a sector.
const (
	middle = iota
	begin
	end
	whole
)

// full is what a sector contains in which no record ends.
var full = strings.Repeat("f", 112)

// part is what the bytes of a sector say. Its checksum and its last generation are right; the zero part is a sector of zero bytes.
type part struct {
	generation uint32
	flags      byte
	data       string
}

// sealed returns the sector with a number whose bytes 8 to 123 are given, with their checksum.
func sealed(generation uint32, number int, flags, length byte, data string, last uint32) []byte {
	s := make([]byte, 128)
	binary.BigEndian.PutUint32(s, generation)
	binary.BigEndian.PutUint16(s[8:], uint16(number))
	s[10], s[11] = flags, length
	copy(s[12:124], data)
	binary.BigEndian.PutUint32(s[124:], last)
	binary.BigEndian.PutUint32(s[4:], crc32.ChecksumIEEE(s[8:124]))
	return s
}

func (p part) sector(number int) []byte {
	if p == (part{}) {
		return make([]byte, 128)
	}
	return sealed(p.generation, number, p.flags, byte(len(p.data)), p.data, p.generation)
}

// laid returns the disk with a sector for each part.
func laid(l ...part) api.Disk {
	d := api.Disk{Left: -1}
	for i, p := range l {
		d.Sectors = append(d.Sectors, p.sector(i))
	}
	return d
}

// empty returns the disk of n sectors of zero bytes.
func empty(n int) api.Disk { return laid(make([]part, n)...) }

func left(d api.Disk, n int) api.Disk { d.Left = n; return d }

func stopped(d api.Disk) api.Disk { d.Stopped = true; return d }

// waiting returns d with a write that waits.
func waiting(d api.Disk) api.Disk {
	d.Pending = []api.Write{{Data: make([]byte, 128)}}
	return d
}

// overwritten returns d with bytes at a place of a sector.
func overwritten(d api.Disk, at, place int, b ...byte) api.Disk {
	d = copyDisk(d)
	copy(d.Sectors[at][place:], b)
	return d
}

func copyDisk(d api.Disk) api.Disk {
	c := api.Disk{Left: d.Left, Stopped: d.Stopped}
	for _, s := range d.Sectors {
		c.Sectors = append(c.Sectors, bytes.Clone(s))
	}
	for _, w := range d.Pending {
		c.Pending = append(c.Pending, api.Write{At: w.At, Data: bytes.Clone(w.Data)})
	}
	return c
}

func copyJournal(j api.Journal) api.Journal {
	c := api.Journal{Many: j.Many, Synced: j.Synced}
	for _, b := range j.Records {
		c.Records = append(c.Records, bytes.Clone(b))
	}
	return c
}

func sameDisk(a, b api.Disk) bool {
	return slices.EqualFunc(a.Sectors, b.Sectors, bytes.Equal) && a.Left == b.Left && a.Stopped == b.Stopped &&
		slices.EqualFunc(a.Pending, b.Pending, func(v, w api.Write) bool { return v.At == w.At && bytes.Equal(v.Data, w.Data) })
}

func sameJournal(a, b api.Journal) bool {
	return a.Many == b.Many && a.Synced == b.Synced && slices.EqualFunc(a.Records, b.Records, bytes.Equal)
}

func zeroDisk(d api.Disk) bool { return sameDisk(d, api.Disk{}) }

func zeroJournal(j api.Journal) bool { return sameJournal(j, api.Journal{}) }

// journal returns a journal whose first records are synced.
func journal(many, synced int, l ...string) api.Journal {
	j := api.Journal{Many: many, Synced: synced}
	for _, s := range l {
		j.Records = append(j.Records, []byte(s))
	}
	return j
}

// lengths returns texts of so many bytes, all of them different from each other.
func lengths(l ...int) (texts []string) {
	for i, n := range l {
		texts = append(texts, strings.Repeat(string(rune('a'+i)), n))
	}
	return texts
}

// opens checks what Open finds on a disk that does not stop.
func opens(t *testing.T, name string, d api.Disk, l ...string) {
	t.Helper()
	if j, e := Open(d); e != api.OK || !sameJournal(j, journal(len(d.Sectors), len(l), l...)) {
		t.Errorf("%s: %d, %d records instead of %d: %q, Many %d, Synced %d", name, e, len(j.Records), len(l), j.Records, j.Many, j.Synced)
	}
}

// P5.1: a new disk has no records; Many is the number of its sectors.
func TestOpenNew(t *testing.T) {
	for _, n := range []int{1, 2, 100, 4096} {
		d, _ := disk.New(n)
		opens(t, "a new disk", d)
	}
}

var wrongDisks = []struct {
	name string
	d    api.Disk
	e    api.Errno
}{
	{"the zero disk", api.Disk{}, api.ErrDisk},
	{"4097 sectors", empty(4097), api.ErrDisk},
	{"a short sector", api.Disk{Sectors: [][]byte{make([]byte, 128), make([]byte, 127)}, Left: -1}, api.ErrDisk},
	{"a sector without bytes", api.Disk{Sectors: [][]byte{nil}, Left: -1}, api.ErrDisk},
	{"a long sector", api.Disk{Sectors: [][]byte{make([]byte, 256)}, Left: -1}, api.ErrDisk},
	{"Left -2", left(empty(2), -2), api.ErrDisk},
	{"a disk that has stopped", stopped(left(empty(2), 0)), api.ErrDisk},
	{"a stopped disk that does not stop", stopped(laid(part{1, whole, "a"}, part{})), api.ErrDisk},
	{"a pending write", waiting(empty(2)), api.ErrArg},
	{"a pending write on a disk with records", waiting(laid(part{1, whole, "a"}, part{})), api.ErrArg},
	{"a pending write on a disk that will stop", waiting(left(empty(2), 0)), api.ErrArg},
	{"a stopped disk with a pending write", stopped(waiting(empty(2))), api.ErrDisk},
	{"Left -2 and a pending write", left(waiting(empty(2)), -2), api.ErrDisk},
	{"a wrong pending write", func() api.Disk { d := waiting(empty(2)); d.Pending[0].At = 2; return d }(), api.ErrDisk},
}

// P5.1: a disk that is not valid, that has stopped or on which writes wait is not opened.
func TestOpenErrors(t *testing.T) {
	for _, x := range wrongDisks {
		if j, e := Open(x.d); e != x.e || !zeroJournal(j) {
			t.Error(x.name, e, j)
		}
	}
}

// P5.1: how many writes a disk still performs does not matter.
func TestOpenLeft(t *testing.T) {
	for _, n := range []int{-1, 0, 1, 65536} {
		opens(t, "Left", left(laid(part{1, whole, "a"}, part{}), n), "a")
	}
}

// P5.1: the checksum is the one of the chapter.
func TestChecksum(t *testing.T) {
	if n := checksum([]byte("123456789")); n != 3421780262 {
		t.Error(n)
	}
	r := rand.New(rand.NewPCG(1, 5))
	for n := range 300 {
		b := make([]byte, n)
		for i := range b {
			b[i] = byte(r.Uint32())
		}
		want := uint32(4294967295)
		for _, c := range b {
			want ^= uint32(c)
			for range 8 {
				out := want & 1
				want >>= 1
				if out == 1 {
					want ^= 3988292384
				}
			}
		}
		want = ^want
		if got := checksum(b); got != want || got != crc32.ChecksumIEEE(b) {
			t.Error(n, got, want)
		}
	}
}

// P5.1: the sector of a record, byte by byte.
func TestOpenBytes(t *testing.T) {
	s := make([]byte, 128)
	copy(s, []byte{1, 2, 3, 4, 252, 13, 106, 118, 0, 0, 3, 2, 'a', 'b'})
	copy(s[124:], []byte{1, 2, 3, 4})
	opens(t, "ab", api.Disk{Sectors: [][]byte{s}, Left: -1}, "ab")
}

// P5.1: whether a sector is good: what it says, with a right checksum, as the sectors 0, 1 (after one in which a record begins) and 300.
func TestGood(t *testing.T) {
	for _, x := range []struct {
		name          string
		generation    uint32
		number        int
		flags, length byte
		data          string
		last          uint32
		good          bool
	}{
		{"a record without bytes", 1, 0, whole, 0, "", 1, true},
		{"a record of one byte", 1, 0, whole, 1, "a", 1, true},
		{"a record of 111 bytes", 1, 0, whole, 111, full[1:], 1, true},
		{"a record of 112 bytes", 1, 0, whole, 112, full, 1, true},
		{"a record of zero bytes", 1, 0, whole, 5, "", 1, true},
		{"the greatest generation", math.MaxUint32, 0, whole, 1, "a", math.MaxUint32, true},
		{"a great generation", 1 << 31, 0, whole, 1, "a", 1 << 31, true},
		{"the generation 0", 0, 0, whole, 1, "a", 0, false},
		{"the generation 0 at the beginning", 0, 0, whole, 1, "a", 1, false},
		{"the generation 0 at the end", 1, 0, whole, 1, "a", 0, false},
		{"another generation at the end", 2, 0, whole, 1, "a", 1, false},
		{"another first byte of the generation at the end", 1, 0, whole, 1, "a", 1<<24 + 1, false},
		{"the number 1", 1, 1, whole, 1, "a", 1, false},
		{"the number 256", 1, 256, whole, 1, "a", 1, false},
		{"byte 10 is 4", 1, 0, 4, 112, full, 1, false},
		{"byte 10 is 4 more", 1, 0, whole + 4, 1, "a", 1, false},
		{"byte 10 is 128 more", 1, 0, whole + 128, 1, "a", 1, false},
		{"113 bytes", 1, 0, whole, 113, full, 1, false},
		{"116 bytes", 1, 0, whole, 116, full, 1, false},
		{"117 bytes", 1, 0, whole, 117, full, 1, false},
		{"255 bytes", 1, 0, whole, 255, full, 1, false},
		{"a byte behind the record", 1, 0, whole, 1, "ab", 1, false},
		{"a byte behind the record, far away", 1, 0, whole, 1, "a" + strings.Repeat("\x00", 110) + "b", 1, false},
		{"a byte behind a record without bytes", 1, 0, whole, 0, "a", 1, false},
	} {
		s := sealed(x.generation, x.number, x.flags, x.length, x.data, x.last)
		var want []string
		if x.good {
			want = []string{x.data + strings.Repeat("\x00", int(x.length)-len(x.data))}
		}
		opens(t, x.name, api.Disk{Sectors: [][]byte{s}, Left: -1}, want...)
	}
}

// P5.1: sectors in which no record ends have 112 bytes, and those in which none begins have at least one.
func TestGoodLengths(t *testing.T) {
	for n := range 113 {
		data := full[:n]
		for flags, fits := range map[byte]bool{middle: n == 112, begin: n == 112, end: n > 0} {
			d := laid(part{1, begin, full}, part{1, flags, data}, part{1, end, "e"}, part{})
			var want []string
			switch {
			case flags == begin:
				d = laid(part{1, begin, data}, part{1, end, "e"})
				if fits {
					want = []string{data + "e"}
				}
			case flags == end && fits:
				want = []string{full + data}
			case fits:
				want = []string{full + data + "e"}
			}
			opens(t, "a part with n bytes", d, want...)
		}
		opens(t, "a whole record", laid(part{1, whole, data}), data)
	}
}

// P5.1: the number of a sector has two bytes.
func TestGreatNumbers(t *testing.T) {
	var l []part
	var want []string
	for i := range 4096 {
		s := string(rune('a' + i%26))
		l = append(l, part{9, whole, s})
		want = append(want, s)
	}
	d := laid(l...)
	opens(t, "4096 records", d, want...)
	for _, n := range []int{0, 1, 255, 256, 257, 300, 4095} {
		for _, wrong := range []int{n + 1, n ^ 256, n ^ 4096, n ^ 1<<15, (n&255)<<8 | n>>8} {
			c := copyDisk(d)
			c.Sectors[n] = part{9, whole, "w"}.sector(wrong)
			if wrong != n {
				opens(t, "a wrong number", c, want[:n]...)
			}
		}
	}
	l = slices.Repeat([]part{{9, middle, full}}, 4096)
	l[0].flags, l[4095].flags = begin, end
	opens(t, "a record of 4096 sectors", laid(l...), strings.Repeat(full, 4096))
	l[4095].flags = middle
	opens(t, "a record that does not end", laid(l...))
}

// P5.1: the records on a disk begin and end, and their generations never become less.
func TestOpenRecords(t *testing.T) {
	for _, x := range []struct {
		name string
		d    api.Disk
		want []string
	}{
		{"one record", laid(part{1, whole, "a"}, part{}), []string{"a"}},
		{"records up to the end of the disk", laid(part{1, whole, "a"}, part{1, whole, ""}, part{1, whole, "c"}), []string{"a", "", "c"}},
		{"a sector of zero bytes at the beginning", laid(part{}, part{1, whole, "a"}), nil},
		{"a sector of zero bytes between records", laid(part{1, whole, "a"}, part{}, part{1, whole, "c"}), []string{"a"}},
		{"greater generations", laid(part{1, whole, "a"}, part{2, whole, "b"}, part{2, whole, "c"}, part{900, whole, "d"}), []string{"a", "b", "c", "d"}},
		{"a lesser generation", laid(part{2, whole, "a"}, part{1, whole, "b"}, part{2, whole, "c"}), []string{"a"}},
		{"a lesser generation than the last one", laid(part{1, whole, "a"}, part{3, whole, "b"}, part{2, whole, "c"}), []string{"a", "b"}},
		{"great generations", laid(part{1<<31 - 1, whole, "a"}, part{1 << 31, whole, "b"}, part{math.MaxUint32, whole, "c"}, part{1, whole, "d"}), []string{"a", "b", "c"}},
		{"two sectors", laid(part{1, begin, full}, part{1, end, "b"}), []string{full + "b"}},
		{"three sectors", laid(part{1, begin, full}, part{1, middle, full}, part{1, end, "c"}, part{1, whole, "d"}), []string{full + full + "c", "d"}},
		{"two records of two sectors", laid(part{1, begin, full}, part{1, end, full}, part{2, begin, full}, part{2, end, "d"}), []string{full + full, full + "d"}},
		{"a greater generation in a record", laid(part{1, begin, full}, part{2, end, "b"}), nil},
		{"a lesser generation in a record", laid(part{1, whole, ""}, part{2, begin, full}, part{1, end, "c"}), []string{""}},
		{"another generation at the end of a record", laid(part{1, begin, full}, part{1, middle, full}, part{2, end, "c"}), nil},
		{"a record of a lesser generation of two sectors", laid(part{2, whole, "a"}, part{1, begin, full}, part{1, end, "c"}), []string{"a"}},
		{"a record that continues at the beginning", laid(part{1, end, "a"}, part{1, whole, "b"}), nil},
		{"a middle at the beginning", laid(part{1, middle, full}, part{1, end, "b"}), nil},
		{"a record that continues after its end", laid(part{1, whole, "a"}, part{1, end, "b"}, part{1, whole, "c"}), []string{"a"}},
		{"a middle after an end", laid(part{1, whole, "a"}, part{1, middle, full}, part{1, end, "c"}), []string{"a"}},
		{"a record that ends twice", laid(part{1, begin, full}, part{1, end, "b"}, part{1, end, "c"}), []string{full + "b"}},
		{"a record that begins twice", laid(part{1, begin, full}, part{1, begin, full}, part{1, end, "c"}), nil},
		{"a record in a record", laid(part{1, begin, full}, part{1, whole, "b"}, part{1, end, "c"}), nil},
		{"a record in a record of a lesser generation", laid(part{1, begin, full}, part{2, whole, "b"}), nil},
		{"a record that does not end", laid(part{1, whole, "a"}, part{1, begin, full}), []string{"a"}},
		{"a record that does not end, in sectors", laid(part{1, whole, "a"}, part{1, begin, full}, part{1, middle, full}), []string{"a"}},
		{"a record that does not end, before zero bytes", laid(part{1, begin, full}, part{}, part{1, end, "c"}), nil},
		{"a middle that is not full", laid(part{1, begin, full}, part{1, middle, full[1:]}, part{1, end, "c"}), nil},
		{"a beginning that is not full", laid(part{1, begin, full[1:]}, part{1, end, "c"}), nil},
		{"an end without bytes", laid(part{1, begin, full}, part{1, end, ""}), nil},
	} {
		opens(t, x.name, x.d, x.want...)
	}
}

// isGood says, by the chapter alone, whether a sector is good for k.
func isGood(s []byte, k int) bool {
	many := int(s[11])
	return bytes.Equal(s[:4], s[124:]) && !bytes.Equal(s[:4], make([]byte, 4)) &&
		binary.BigEndian.Uint32(s[4:]) == crc32.ChecksumIEEE(s[8:124]) && int(s[8])*256+int(s[9]) == k &&
		s[10] <= 3 && many <= 112 && bytes.Equal(s[12+many:124], make([]byte, 112-many)) &&
		(s[10]&2 == 2 || many == 112) && (s[10]&1 == 1 || many >= 1)
}

// recordAt returns, by the chapter alone, the record that begins at k, and how many sectors it occupies, which are 0 if there is none.
func recordAt(d api.Disk, k int) (b []byte, many int) {
	for i, s := range d.Sectors[k:] {
		if !isGood(s, k+i) || (s[10]&1 == 1) != (i == 0) || !bytes.Equal(s[:4], d.Sectors[k][:4]) {
			return nil, 0
		}
		b = append(b, s[12:12+int(s[11])]...)
		if s[10]&2 == 2 {
			return b, i + 1
		}
	}
	return nil, 0
}

// recordsOn returns, by the chapter alone, the records on a disk.
func recordsOn(d api.Disk) (l []string) {
	var generation []byte
	for k := 0; k < len(d.Sectors); {
		b, many := recordAt(d, k)
		if many == 0 || bytes.Compare(d.Sectors[k][:4], generation) < 0 {
			return l
		}
		l = append(l, string(b))
		generation = d.Sectors[k][:4]
		k += many
	}
	return l
}

// anyDisk returns a disk on which there are records, and parts of records, with some errors.
func anyDisk(r *rand.Rand) api.Disk {
	var l []part
	generation := uint32(1 + r.IntN(3))
	for range 1 + r.IntN(5) {
		generation += uint32(r.IntN(2))
		for i, many := 0, 1+r.IntN(4)*r.IntN(2); i < many; i++ {
			p := part{generation, middle, full}
			if i == 0 {
				p.flags |= begin
			}
			if i == many-1 {
				p.flags |= end
				p.data = full[:1+r.IntN(112)]
			}
			l = append(l, p)
		}
	}
	if r.IntN(2) == 0 {
		p := &l[r.IntN(len(l))]
		p.generation += uint32(r.IntN(3)) - 1
		p.flags = byte(r.IntN(5))
		p.data = []string{"", "x", full[1:], full}[r.IntN(4)]
	}
	d := laid(append(l, make([]part, r.IntN(4))...)...)
	if r.IntN(2) == 0 {
		i, k := r.IntN(len(d.Sectors)), r.IntN(len(d.Sectors))
		copy(d.Sectors[i][:64], d.Sectors[k])
	}
	return d
}

// P5.1: Open finds what the chapter says, whatever is on the disk.
func TestOpenAnything(t *testing.T) {
	r := rand.New(rand.NewPCG(2, 5))
	counts := map[int]int{}
	for range 20000 {
		d := anyDisk(r)
		want := recordsOn(d)
		opens(t, "any disk", d, want...)
		counts[len(want)]++
	}
	for n := range 5 {
		if counts[n] < 100 {
			t.Error(n, "records are rare", counts)
		}
	}
}

var validJournals = []struct {
	name string
	j    api.Journal
	room int
}{
	{"no records", journal(1, 0), 112},
	{"no records in 4096 sectors", journal(4096, 0), 112 * 4096},
	{"a record without bytes", journal(1, 1, ""), 0},
	{"112 bytes", journal(1, 1, full), 0},
	{"113 bytes", journal(2, 0, full+"a"), 0},
	{"224 bytes", journal(3, 0, full+full), 112},
	{"225 bytes", journal(4, 1, full+full+"a"), 112},
	{"records of many lengths", journal(22, 2, lengths(0, 1, 111, 112, 113, 223, 224, 225, 1000)...), 0},
	{"none synced", journal(23, 0, lengths(0, 1, 111, 112, 113, 223, 224, 225, 1000)...), 112},
	{"all synced", journal(4096, 3, "a", "b", "c"), 112 * 4093},
	{"a record that fills the disk", journal(4096, 0, strings.Repeat(full, 4096)), 0},
	{"4096 records", journal(4096, 7, make([]string, 4096)...), 0},
}

var wrongJournals = []struct {
	name string
	j    api.Journal
}{
	{"the zero journal", api.Journal{}},
	{"no sectors", journal(0, 0, "")},
	{"Many -1", journal(-1, 0)},
	{"Many 4097", journal(4097, 0)},
	{"the least Many", journal(math.MinInt, 0)},
	{"the greatest Many", journal(math.MaxInt, 0)},
	{"Synced -1", journal(5, -1, "a")},
	{"more Synced than records", journal(5, 2, "a")},
	{"Synced without records", journal(5, 1)},
	{"the least Synced", journal(5, math.MinInt, "a")},
	{"the greatest Synced", journal(5, math.MaxInt, "a")},
	{"two records in a sector", journal(1, 0, "", "")},
	{"113 bytes in a sector", journal(1, 0, full+"a")},
	{"225 bytes in two sectors", journal(2, 0, full+full+"a")},
	{"records of many lengths", journal(21, 2, lengths(0, 1, 111, 112, 113, 223, 224, 225, 1000)...)},
	{"a record that is longer than the disk", journal(4096, 0, strings.Repeat(full, 4096)+"a")},
	{"4097 records", journal(4096, 0, make([]string, 4097)...)},
}

// P5.2: a journal is valid if its records fit on its disk, and so many are synced as there can be.
func TestCheck(t *testing.T) {
	for _, x := range validJournals {
		if e := Check(x.j); e != api.OK {
			t.Error(x.name, e)
		}
	}
	for _, x := range wrongJournals {
		if e := Check(x.j); e != api.ErrArg {
			t.Error(x.name, e)
		}
	}
}

// P5.2: Room is 112 bytes for each sector that is left, and 0 for a journal that is not valid.
func TestRoom(t *testing.T) {
	for _, x := range validJournals {
		if n := Room(x.j); n != x.room {
			t.Error(x.name, n)
		}
	}
	for _, x := range wrongJournals {
		if n := Room(x.j); n != 0 {
			t.Error(x.name, n)
		}
	}
}

// P5.2: as many bytes as there is room for can be appended as one record if a sector is left, and no more.
func TestAppend(t *testing.T) {
	for _, x := range validJournals {
		want := copyJournal(x.j)
		for _, n := range []int{0, 1, 111, 112, 113, x.room - 1, x.room} {
			if n < 0 {
				continue
			}
			y, e := Append(x.j, []byte(strings.Repeat("z", n)))
			if n > x.room || x.room == 0 {
				if e != api.ErrLimit || !zeroJournal(y) {
					t.Error(x.name, n, e)
				}
				continue
			}
			longer := copyJournal(want)
			longer.Records = append(longer.Records, []byte(strings.Repeat("z", n)))
			if e != api.OK || !sameJournal(y, longer) || Check(y) != api.OK {
				t.Error(x.name, n, e, y)
			}
		}
		if y, e := Append(x.j, make([]byte, x.room+1)); e != api.ErrLimit || !zeroJournal(y) {
			t.Error(x.name, "too many bytes", e)
		}
	}
	for _, x := range wrongJournals {
		for _, n := range []int{0, 1, 112 * 4097} {
			if y, e := Append(x.j, make([]byte, n)); e != api.ErrArg || !zeroJournal(y) {
				t.Error(x.name, n, e)
			}
		}
	}
}

// P5.2: a record without bytes occupies one sector.
func TestAppendNothing(t *testing.T) {
	j := journal(2, 0)
	for i, want := range []int{112, 0} {
		var e api.Errno
		if j, e = Append(j, nil); e != api.OK || len(j.Records) != i+1 || j.Synced != 0 || Room(j) != want {
			t.Error(i, e, j, Room(j))
		}
	}
	if x, e := Append(j, nil); e != api.ErrLimit || !zeroJournal(x) {
		t.Error(e, x)
	}
}

// sectorsOf returns the sectors that a record occupies, from the one with a number on.
func sectorsOf(s string, number int, generation uint32) (l [][]byte) {
	for first := true; first || s != ""; first = false {
		n := min(112, len(s))
		p := part{generation: generation, data: s[:n]}
		s = s[n:]
		if first {
			p.flags += begin
		}
		if s == "" {
			p.flags += end
		}
		l = append(l, p.sector(number+len(l)))
	}
	return l
}

// synced returns a disk on which records were synced, some in each sync, and a journal with all of these.
func synced(t *testing.T, many int, syncs ...[]string) (j api.Journal, d api.Disk) {
	t.Helper()
	d = empty(many)
	j = journal(many, 0)
	at := 0
	for i, l := range syncs {
		for _, s := range l {
			for _, b := range sectorsOf(s, at, uint32(i+1)) {
				d.Sectors[at] = b
				at++
			}
			j.Records = append(j.Records, []byte(s))
		}
	}
	j.Synced = len(j.Records)
	return j, d
}

// with returns j with further records, which are not synced.
func with(j api.Journal, l ...string) api.Journal {
	j = copyJournal(j)
	for _, s := range l {
		j.Records = append(j.Records, []byte(s))
	}
	return j
}

// P5.3: the records that are not synced are written after the others, with a generation that is greater by 1 than any that there is.
func TestSync(t *testing.T) {
	old := [][][]string{nil, {{"old"}}, {{"", "old"}, {full + "old"}}, {lengths(0, 300, 112), {"a"}, {"b", full}}}
	for _, l := range [][]string{{""}, {"", ""}, {"new"}, {full}, {full + "n"}, {full + full}, lengths(0, 1, 111, 112, 113, 223, 224, 225, 1000), {"\x00\x00", "\xff"}} {
		for _, syncs := range old {
			for before, after := range map[int]int{-1: -1, 65536: 65536, 100: 100} {
				j, d := synced(t, 50, syncs...)
				want := copyDisk(d)
				at := occupiedBy(j.Records)
				for _, s := range l {
					for _, b := range sectorsOf(s, at, uint32(len(syncs)+1)) {
						want.Sectors[at] = b
						at++
						after = max(-1, after-1)
					}
				}
				want.Left = max(-1, after)
				x, y, e := Sync(with(j, l...), left(d, before))
				all := with(j, l...)
				all.Synced = len(all.Records)
				if e != api.OK || !sameJournal(x, all) || !sameDisk(y, want) {
					t.Fatal(l, syncs, before, e, x.Synced, y.Left)
				}
			}
		}
	}
}

// occupiedBy counts sectors one by one.
func occupiedBy(l [][]byte) (n int) {
	for _, b := range l {
		n += len(sectorsOf(string(b), 0, 1))
	}
	return n
}

// P5.3: if all records are synced, nothing happens, also to a disk that would stop.
func TestSyncNothing(t *testing.T) {
	for _, syncs := range [][][]string{nil, {{"a"}}, {{"", full + "b"}, {"c"}}} {
		for _, n := range []int{-1, 0, 1, 65536} {
			j, d := synced(t, 6, syncs...)
			if x, y, e := Sync(j, left(d, n)); e != api.OK || !sameJournal(x, j) || !sameDisk(y, left(d, n)) {
				t.Error(syncs, n, e, x, y.Left)
			}
		}
	}
}

// P5.3: errors, in the order in which the chapter mentions them.
func TestSyncErrors(t *testing.T) {
	a, b := part{1, whole, "a"}, part{1, whole, "b"}
	for _, x := range []struct {
		name string
		j    api.Journal
		d    api.Disk
		e    api.Errno
	}{
		{"fewer sectors than Many", journal(3, 0, "a"), empty(2), api.ErrArg},
		{"more sectors than Many", journal(1, 0, "a"), empty(2), api.ErrArg},
		{"more sectors than Many, and nothing to write", journal(1, 0), empty(2), api.ErrArg},
		{"a wrong number of sectors on a stopped disk", journal(3, 0), stopped(empty(2)), api.ErrDisk},
		{"a wrong number of sectors, and other records", journal(3, 0), laid(a, part{}), api.ErrArg},
		{"a pending write, and other records", journal(2, 0), waiting(laid(a, part{})), api.ErrArg},
		{"a pending write, and the last generation", journal(1, 0), waiting(laid(part{math.MaxUint32, end, "x"})), api.ErrArg},
		{"a record on the disk that is not synced", journal(2, 0, "a"), laid(a, part{}), api.ErrLog},
		{"a record on the disk that is not there", journal(2, 0), laid(a, part{}), api.ErrLog},
		{"a record that is synced, but not on the disk", journal(2, 1, "a"), empty(2), api.ErrLog},
		{"another record", journal(2, 1, "b"), laid(a, part{}), api.ErrLog},
		{"a longer record", journal(2, 1, "ab"), laid(a, part{}), api.ErrLog},
		{"a shorter record", journal(2, 1, ""), laid(a, part{}), api.ErrLog},
		{"a record with a zero byte", journal(2, 1, "a\x00"), laid(a, part{}), api.ErrLog},
		{"records in another order", journal(3, 2, "b", "a"), laid(a, b, part{}), api.ErrLog},
		{"the last record is another one", journal(3, 2, "a", "c"), laid(a, b, part{}), api.ErrLog},
		{"fewer records on the disk", journal(3, 2, "a", "b"), laid(a, part{}, part{}), api.ErrLog},
		{"more records on the disk", journal(3, 1, "a", "b"), laid(a, b, part{}), api.ErrLog},
		{"two records instead of one", journal(3, 2, full, "b"), laid(part{1, begin, full}, part{1, end, "b"}, part{}), api.ErrLog},
		{"other records, and the last generation", journal(2, 1, "b"), laid(part{math.MaxUint32, whole, "a"}, part{}), api.ErrLog},
		{"the records on the disk", journal(3, 2, "a", "b"), laid(a, b, part{}), api.OK},
		{"the records on the disk, before others", journal(3, 2, "a", "b", "c"), laid(a, b, part{}), api.OK},
	} {
		if j, d, e := Sync(x.j, x.d); e != x.e || e != api.OK && (!zeroJournal(j) || !zeroDisk(d)) {
			t.Error(x.name, e, j, d)
		}
	}
	for _, x := range wrongDisks {
		for _, j := range []api.Journal{journal(2, 0), journal(2, 0, "a"), journal(2, 1, "x", "y")} {
			if x.e == api.ErrDisk {
				j.Many = 3
			}
			if k, d, e := Sync(j, x.d); e != x.e || !zeroJournal(k) || !zeroDisk(d) {
				t.Error(x.name, e, k, d)
			}
		}
		for _, w := range wrongJournals {
			if j, d, e := Sync(w.j, x.d); e != api.ErrArg || !zeroJournal(j) || !zeroDisk(d) {
				t.Error(w.name, x.name, e, j, d)
			}
		}
	}
	for _, w := range wrongJournals {
		if j, d, e := Sync(w.j, empty(5)); e != api.ErrArg || !zeroJournal(j) || !zeroDisk(d) {
			t.Error(w.name, e, j, d)
		}
	}
}

// P5.3: the generation is greater by 1 than what stands at the ends of any sector, good or not; there is none after 2^32 - 1.
func TestSyncGeneration(t *testing.T) {
	record := part{5, whole, "a"}
	for _, at := range []int{0, 1, 2} {
		for _, place := range []int{0, 124} {
			for _, g := range []uint32{5, 6, 255, 256, 1 << 16, 1 << 24, 1<<31 - 1, 1 << 31, math.MaxUint32 - 1, math.MaxUint32} {
				d := laid(record, part{}, part{})
				j := journal(3, 1, "a", "b")
				if at == 0 {
					d = laid(part{}, record, part{3, whole, "z"})
					j = journal(3, 0, "b")
				}
				d = overwritten(d, at, place, binary.BigEndian.AppendUint32(nil, g)...)
				x, y, e := Sync(j, d)
				if g == math.MaxUint32 {
					j.Records = j.Records[:j.Synced]
					k, f, h := Sync(j, d)
					if e != api.ErrLog || !zeroJournal(x) || !zeroDisk(y) || h != api.ErrLog || !zeroJournal(k) || !zeroDisk(f) {
						t.Error(at, place, e, h)
					}
					continue
				}
				want := copyDisk(d)
				want.Sectors[j.Synced] = part{g + 1, whole, "b"}.sector(j.Synced)
				if e != api.OK || !sameDisk(y, want) || x.Synced != len(j.Records) {
					t.Error(at, place, g, e)
				}
				opens(t, "the next generation", y, []string{"a", "b"}[1-j.Synced:]...)
			}
		}
	}
}

// P5.3: the bytes 4 to 123 of a sector do not say a generation.
func TestSyncOtherBytes(t *testing.T) {
	for _, place := range []int{4, 8, 12, 60, 64, 120} {
		_, d, e := Sync(journal(2, 0, "a"), overwritten(laid(part{}, part{7, end, "x"}), 1, place, 255, 255, 255, 255))
		if e != api.OK || !bytes.Equal(d.Sectors[0], part{8, whole, "a"}.sector(0)) {
			t.Error(place, e)
		}
	}
}

// torn returns d after so many writes of sectors, from the one with a number on, of which the next one was torn.
func torn(d api.Disk, at int, l [][]byte, many int) api.Disk {
	d = copyDisk(d)
	for i, b := range l[:many] {
		d.Sectors[at+i] = b
	}
	copy(d.Sectors[at+many][:64], l[many])
	return api.Disk{Sectors: d.Sectors, Stopped: true}
}

// P5.3, P5.4: a disk that stops after any number of writes is returned with ErrDisk; it has the records that were synced and a beginning of the others.
func TestSyncStops(t *testing.T) {
	for _, syncs := range [][][]string{nil, {{"old"}}, {{"", "old"}, {full + "old"}}} {
		for _, l := range [][]string{{""}, {"new"}, {full + "n"}, {"a", "b", "c"}, lengths(0, 300, 112, 225, 1)} {
			j, d := synced(t, 30, syncs...)
			at := occupiedBy(j.Records)
			var sectors [][]byte
			var ends []int
			for _, s := range l {
				sectors = append(sectors, sectorsOf(s, at+len(sectors), uint32(len(syncs)+1))...)
				ends = append(ends, len(sectors))
			}
			for n := range sectors {
				x, y, e := Sync(with(j, l...), left(d, n))
				if e != api.ErrDisk || !zeroJournal(x) || !sameDisk(y, torn(d, at, sectors, n)) {
					t.Fatal(syncs, l, n, e, x, y.Left, y.Stopped)
				}
				kept, _ := slices.BinarySearch(ends, n+1)
				k, e := Open(disk.Restart(y))
				want := with(j, l[:kept]...)
				want.Synced = len(want.Records)
				if e != api.OK || !sameJournal(k, want) {
					t.Fatal(syncs, l, n, e, k)
				}
				if k, e := Open(y); e != api.ErrDisk || !zeroJournal(k) {
					t.Fatal("the stopped disk", e, k)
				}
			}
			if x, y, e := Sync(with(j, l...), left(d, len(sectors))); e != api.OK || y.Left != 0 || y.Stopped || x.Synced != len(x.Records) {
				t.Fatal(syncs, l, e, y.Left, y.Stopped)
			}
		}
	}
}

// anyRecord returns a record that occupies up to five sectors.
func anyRecord(r *rand.Rand) []byte {
	b := make([]byte, []int{0, 1, 50, 111, 112, 113, 224, 225, 300, 500}[r.IntN(10)])
	for i := range b {
		b[i] = byte(r.Uint32())
	}
	return b
}

// crash syncs with a disk that may stop, and returns what there is on the disk after a restart.
func crash(t *testing.T, r *rand.Rand, j api.Journal, d api.Disk) (api.Journal, api.Disk) {
	at := occupiedBy(j.Records[:j.Synced])
	n := r.IntN(occupiedBy(j.Records) - at + 2)
	kept := j.Synced
	for used := 0; kept < len(j.Records); kept++ {
		if used += occupiedBy(j.Records[kept : kept+1]); used > n {
			break
		}
	}
	x, y, e := Sync(j, left(d, n))
	if (e == api.OK) != (kept == len(j.Records)) || e == api.OK && (!sameJournal(x, all(j)) || y.Stopped) || e != api.OK && (e != api.ErrDisk || !y.Stopped) {
		t.Fatal(n, kept, e, y.Stopped)
	}
	y = disk.Restart(y)
	k, e := Open(y)
	want := all(api.Journal{Many: j.Many, Records: j.Records[:kept]})
	if e != api.OK || !sameJournal(k, want) {
		t.Fatal("after a restart", n, e, len(k.Records), kept)
	}
	return k, y
}

// all returns j with all records synced.
func all(j api.Journal) api.Journal { j.Synced = len(j.Records); return j }

// grown appends up to three records, as long as there is room for them.
func grown(r *rand.Rand, j api.Journal) api.Journal {
	for range r.IntN(4) {
		if x, e := Append(j, anyRecord(r)); e == api.OK {
			j = x
		}
	}
	return j
}

// P5.4: whatever crashes follow each other, records that were synced remain, and the others are there up to one that was not written.
func TestCrashes(t *testing.T) {
	r := rand.New(rand.NewPCG(3, 5))
	for range 400 {
		d := empty(1 + r.IntN(40))
		j, e := Open(d)
		if e != api.OK {
			t.Fatal(e)
		}
		for range 30 {
			j, d = crash(t, r, grown(r, j), d)
		}
	}
}

// P5.4: the same holds if there are other sectors on the disk at the beginning.
func TestCrashesOnAnything(t *testing.T) {
	r := rand.New(rand.NewPCG(4, 5))
	for range 2000 {
		d := anyDisk(r)
		j, e := Open(d)
		if e != api.OK {
			t.Fatal(e)
		}
		for range 8 {
			j, d = crash(t, r, grown(r, j), d)
		}
	}
}

// P5.4: a record that is torn again and again, each time in another sector, never appears until it is written.
func TestTornAgain(t *testing.T) {
	d := empty(8)
	long := strings.Repeat("l", 700)
	for _, n := range []int{6, 5, 0, 3, 6, 1, 2, 4, 0, 0} {
		_, y, e := Sync(journal(8, 0, long), left(d, n))
		if d = disk.Restart(y); e != api.ErrDisk {
			t.Fatal(n, e)
		}
		opens(t, "torn", d)
	}
	_, d, e := Sync(journal(8, 0, "short"), d)
	opens(t, "another record", d, "short")
	j, d, e2 := Sync(journal(8, 1, "short", long), d)
	if e != api.OK || e2 != api.OK || j.Synced != 2 {
		t.Error(e, e2, j.Synced)
	}
	opens(t, "both", d, "short", long)
}

// P5.4: after Sync, Open returns the records, also on a disk that is full.
func TestFullDisk(t *testing.T) {
	for _, l := range [][]string{make([]string, 4096), {strings.Repeat(full, 4096)}, {full, strings.Repeat(full, 4094), ""}} {
		j := journal(4096, 0, l...)
		x, d, e := Sync(j, empty(4096))
		if e != api.OK || !sameJournal(x, all(j)) || Room(x) != 0 {
			t.Error(len(l), e, Room(x))
		}
		opens(t, "a full disk", d, l...)
	}
}

// P5.4: if a byte of a sector is changed, the records before it remain, and no others.
func TestChangedByte(t *testing.T) {
	l := []string{"", full + "b", "c", full + full, ""}
	firsts := []int{0, 1, 1, 2, 3, 3, 4}
	_, d := synced(t, 8, l[:2], l[2:])
	opens(t, "no change", d, l...)
	for at, first := range firsts {
		for place := range 128 {
			for change := 1; change < 256; change++ {
				c := slices.Clone(d.Sectors)
				c[at] = bytes.Clone(c[at])
				c[at][place] ^= byte(change)
				j, e := Open(api.Disk{Sectors: c, Left: -1})
				if e != api.OK || !sameJournal(j, all(journal(8, 0, l[:first]...))) {
					t.Fatal(at, place, change, e, j)
				}
			}
		}
	}
	for place := range 128 {
		opens(t, "a change behind the records", overwritten(d, 7, place, 77), l...)
	}
}

// Calls leave their arguments alone, also the memory behind them, and what they returned is not changed by later ones.
func TestPurity(t *testing.T) {
	j := journal(20, 0, "a", full+"b")
	j.Records = append(make([][]byte, 0, 10), j.Records...)
	b := []byte("first")
	first, _ := Append(j, b)
	second, _ := Append(j, []byte("second"))
	third, _ := Append(first, []byte("third"))
	fourth, _ := Append(first, []byte("fourth"))
	journals := []api.Journal{j, first, second, third, fourth}
	var disks []api.Disk
	for _, x := range slices.Clone(journals) {
		for _, n := range []int{-1, 0, 2, 100} {
			d := left(empty(20), n)
			y, f, _ := Sync(x, d)
			k, _ := Open(disk.Restart(f))
			more, _ := Append(k, []byte("more"))
			journals = append(journals, y, k, more)
			disks = append(disks, d, f)
		}
	}
	keptJournals, keptDisks := copies(journals, copyJournal), copies(disks, copyDisk)
	for i, x := range journals {
		Open(disks[i%len(disks)])
		Append(x, []byte("other"))
		Sync(x, disks[i%len(disks)])
		k, d, e := Sync(with(x, "last"), disk.Restart(disks[i%len(disks)]))
		if e == api.OK {
			Append(k, b)
			Sync(with(k, "behind the last"), left(d, 0))
		}
	}
	for i, x := range journals {
		if !sameJournal(x, keptJournals[i]) {
			t.Error(i, "changed", x)
		}
	}
	for i, x := range disks {
		if !sameDisk(x, keptDisks[i]) {
			t.Error(i, "changed")
		}
	}
	if j.Records[:3][2] != nil {
		t.Error("memory behind the records")
	}
	b[0] = 'F'
	if string(first.Records[2]) != "first" {
		t.Error("the bytes are kept that were passed")
	}
}

func copies[T any](l []T, f func(T) T) (c []T) {
	for _, x := range l {
		c = append(c, f(x))
	}
	return c
}
