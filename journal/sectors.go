package journal

import (
	"bytes"

	"hansard/api"
)

// pieceSize is how many bytes of a record a sector contains at most.
const pieceSize = 112

// beginFlag and endFlag are the parts of the byte that says whether a record begins or ends in a sector.
const (
	beginFlag = 1
	endFlag   = 2
)

// The places of what a sector contains, in bytes; each ends where the next one begins.
const (
	checksumAt = 4
	numberAt   = 8
	flagsAt    = 10
	lengthAt   = 11
	dataAt     = 12
	endAt      = dataAt + pieceSize
)

// remainders are what the checksum makes of four bits.
var remainders = [16]uint32{
	0x00000000, 0x1DB71064, 0x3B6E20C8, 0x26D930AC, 0x76DC4190, 0x6B6B51F4, 0x4DB26158, 0x5005713C,
	0xEDB88320, 0xF00F9344, 0xD6D6A3E8, 0xCB61B38C, 0x9B64C2B0, 0x86D3D2D4, 0xA00AE278, 0xBDBDF21C,
}

// piece is what a sector says: a part of a record, with the number of the sector.
type piece struct {
	generation, number int
	begins, ends       bool
	data               []byte
}

// sector returns the sector that says a piece.
func (p piece) sector() (s [api.SectorSize]byte) {
	put(s[:checksumAt], p.generation)
	put(s[numberAt:flagsAt], p.number)
	s[flagsAt] = p.flags()
	s[lengthAt] = byte(len(p.data))
	copy(s[dataAt:endAt], p.data)
	put(s[endAt:], p.generation)
	put(s[checksumAt:numberAt], int(checksum(s[numberAt:endAt])))
	return s
}

func (p piece) flags() (flags byte) {
	if p.begins {
		flags |= beginFlag
	}
	if p.ends {
		flags |= endFlag
	}
	return flags
}

// continues reports whether a piece continues the record of the one in the sector before it.
func (p piece) continues(before piece) bool {
	return !before.ends && !p.begins && p.generation == before.generation
}

// follows reports whether a piece begins the record after that of the one in the sector before it.
func (p piece) follows(before piece) bool {
	return before.ends && p.begins && p.generation >= before.generation
}

// parse returns what a sector says if it is good for a number. Whatever does not belong to the form, also further flags, is found by comparing the sector with the one that says the same.
func parse(s []byte, number int) (p piece, good bool) {
	flags, length := s[flagsAt], int(s[lengthAt])
	if length > pieceSize {
		return piece{}, false
	}
	p = piece{
		generation: numeral(s[:checksumAt]), number: number,
		begins: flags&beginFlag != 0, ends: flags&endFlag != 0,
		data: s[dataAt : dataAt+length],
	}
	if p.generation == 0 || !p.ends && length < pieceSize || !p.begins && length < 1 {
		return piece{}, false
	}
	if same := p.sector(); !bytes.Equal(s, same[:]) {
		return piece{}, false
	}
	return p, true
}

// latest returns the greatest generation of sectors, also of those that are not good, as a torn sector has one at each end.
func latest(sectors [][]byte) (n int) {
	for _, s := range sectors {
		n = max(n, numeral(s[:checksumAt]), numeral(s[endAt:]))
	}
	return n
}

// put writes a number into bytes, with the most significant one first.
func put(b []byte, n int) {
	for i := range b {
		b[len(b)-1-i] = byte(n >> (8 * i))
	}
}

// numeral returns the number that bytes represent.
func numeral(b []byte) (n int) {
	for _, c := range b {
		n = n<<8 | int(c)
	}
	return n
}

// checksum takes four bits at a time, as a table for whole bytes would be long.
func checksum(b []byte) uint32 {
	n := ^uint32(0)
	for _, c := range b {
		n ^= uint32(c)
		n = n>>4 ^ remainders[n&15]
		n = n>>4 ^ remainders[n&15]
	}
	return ^n
}
