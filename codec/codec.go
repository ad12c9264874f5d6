// Package codec encodes values canonically. See shared/doc/01-codec.md.
package codec

import (
	"slices"

	"hansard/api"
)

// Check validates a value.
func Check(v api.Value) (e api.Errno) {
	if !wellFormed(v) {
		return api.ErrArg
	}
	if depth(v) > api.MaxDepth {
		return api.ErrLimit
	}
	return api.OK
}

// Encode returns the encoding of a value.
func Encode(v api.Value) (b []byte, e api.Errno) {
	if e = Check(v); e != api.OK {
		return nil, e
	}
	return write(make([]byte, 0, size(v)), v), api.OK
}

// Decode returns the value of an encoding.
func Decode(b []byte) (v api.Value, e api.Errno) {
	defer func() {
		if recover() != nil {
			v, e = api.Value{}, api.ErrCode
		}
	}()
	return readWhole(b), api.OK
}

// Size returns the length of the encoding of a value.
func Size(v api.Value) (n int, e api.Errno) {
	if e = Check(v); e != api.OK {
		return 0, e
	}
	return size(v), api.OK
}

// Same reports whether two values are equal.
func Same(a, b api.Value) (same bool) {
	return a.Kind == b.Kind && a.N == b.N && a.S == b.S && slices.EqualFunc(a.L, b.L, Same)
}

// wellFormed reports whether v and all values within it have a kind, and nothing that their kind does not use.
func wellFormed(v api.Value) bool {
	switch v.Kind {
	case api.IntV:
		return v.S == "" && len(v.L) == 0
	case api.TextV:
		return v.N == 0 && len(v.L) == 0
	case api.ListV:
		return v.N == 0 && v.S == "" && !slices.ContainsFunc(v.L, illFormed)
	}
	return false
}

func illFormed(v api.Value) bool { return !wellFormed(v) }

// depth returns how many lists are one within the other in a well-formed value.
func depth(v api.Value) int {
	if v.Kind != api.ListV {
		return 0
	}
	deepest := 0
	for _, x := range v.L {
		deepest = max(deepest, depth(x))
	}
	return 1 + deepest
}
