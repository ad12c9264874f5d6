package codec

import (
	"math/bits"

	"hansard/api"
)

// writer is how values of one kind are written behind the byte of the kind: the numeral of a number, then the rest.
type writer struct {
	number func(v api.Value) uint64
	rest   func(b []byte, v api.Value) []byte
}

// writers returns the writer of each kind, indexed by the kind.
func writers() [4]writer {
	return [4]writer{
		api.IntV:  {number: unsignedForm, rest: writeNothing},
		api.TextV: {number: textLength, rest: writeText},
		api.ListV: {number: listLength, rest: writeElements},
	}
}

// write appends the encoding of v, which is well-formed.
func write(b []byte, v api.Value) []byte {
	w := writers()[v.Kind]
	b = writeNumeral(append(b, byte(v.Kind)), w.number(v))
	return w.rest(b, v)
}

// size returns how many bytes write appends. It counts all fields, as those that the kind of v does not use are empty.
func size(v api.Value) int {
	n := 1 + numeralSize(writers()[v.Kind].number(v)) + len(v.S)
	for _, x := range v.L {
		n += size(x)
	}
	return n
}

// unsignedForm turns all bits of 2n where n is negative, which makes it -2n - 1 without leaving 64 bits.
func unsignedForm(v api.Value) uint64 {
	if v.N < 0 {
		return ^(uint64(v.N) << 1)
	}
	return uint64(v.N) << 1
}

func textLength(v api.Value) uint64 { return uint64(len(v.S)) }

func listLength(v api.Value) uint64 { return uint64(len(v.L)) }

func writeNothing(b []byte, v api.Value) []byte { return b }

func writeText(b []byte, v api.Value) []byte { return append(b, v.S...) }

func writeElements(b []byte, v api.Value) []byte {
	for _, x := range v.L {
		b = write(b, x)
	}
	return b
}

func writeNumeral(b []byte, u uint64) []byte {
	for u >= 128 {
		b = append(b, byte(u%128)+128)
		u /= 128
	}
	return append(b, byte(u))
}

// numeralSize returns the number of digits of u. Zero has a digit, too, so it is counted like one.
func numeralSize(u uint64) int { return (bits.Len64(u|1) + 6) / 7 }
