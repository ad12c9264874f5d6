package journal

import (
	"bytes"
	"iter"
)

// sectorsFor returns how many sectors a record occupies.
func sectorsFor(b []byte) int { return max(1, (len(b)+pieceSize-1)/pieceSize) }

// occupied returns how many sectors records occupy together.
func occupied(l [][]byte) (n int) {
	for _, b := range l {
		n += sectorsFor(b)
	}
	return n
}

// pieces yields the pieces of a record, the first of which is in the sector with a number.
func pieces(b []byte, first, generation int) iter.Seq[piece] {
	return func(yield func(piece) bool) {
		for i := range sectorsFor(b) {
			end := min((i+1)*pieceSize, len(b))
			p := piece{generation: generation, number: first + i, begins: i == 0, ends: end == len(b), data: b[i*pieceSize : end]}
			if !yield(p) {
				return
			}
		}
	}
}

// records yields the records on a disk.
func records(sectors [][]byte) iter.Seq[[]byte] {
	return func(yield func([]byte) bool) {
		var b []byte
		before := piece{ends: true} // a record of any generation can follow
	reading:
		for number, s := range sectors {
			p, good := parse(s, number)
			switch {
			case !good:
				break reading
			case p.continues(before):
				b = append(b, p.data...)
			case p.follows(before):
				b = bytes.Clone(p.data)
			default:
				break reading
			}
			if p.ends && !yield(b) {
				break reading
			}
			before = p
		}
	}
}

// holds reports whether the records on a disk are those of a list.
func holds(sectors, l [][]byte) bool {
	n := 0
	for b := range records(sectors) {
		if n == len(l) || !bytes.Equal(b, l[n]) {
			return false
		}
		n++
	}
	return n == len(l)
}
