package digest

import (
	"math/bits"
	"slices"

	"hansard/api"
)

// maxElements is the greatest number of elements of a list for which Climb answers.
const maxElements = 1 << 40

func leaf(d api.Digest) api.Digest { return Tagged("leaf", d[:]) }

func node(left, right api.Digest) api.Digest { return tagPair("node", left, right) }

func tagPair(tag string, a, b api.Digest) api.Digest { return Tagged(tag, slices.Concat(a[:], b[:])) }

// split returns how many of n > 1 elements are in the first part: the greatest power of 2 less than n.
func split(n int) int { return 1 << (bits.Len(uint(n-1)) - 1) }

// appendPath appends the path of an element that l has.
func appendPath(path []api.Digest, l []api.Digest, at int) []api.Digest {
	if len(l) == 1 {
		return path
	}
	k := split(len(l))
	if at < k {
		return append(appendPath(path, l[:k], at), Tree(l[k:]))
	}
	return append(appendPath(path, l[k:], at-k), Tree(l[:k]))
}

// pathLength returns the number of elements of the path of an element that is in a list of n elements.
func pathLength(at, n int) (length int) {
	for ; n > 1; length++ {
		if k := split(n); at < k {
			n = k
		} else {
			at, n = at-k, n-k
		}
	}
	return length
}

// climb does what Climb does with a path that is as long as pathLength says.
func climb(d api.Digest, at, n int, path []api.Digest) api.Digest {
	if n == 1 {
		return leaf(d)
	}
	k, rest := split(n), len(path)-1
	if at < k {
		return node(climb(d, at, k, path[:rest]), path[rest])
	}
	return node(path[rest], climb(d, at-k, n-k, path[:rest]))
}
