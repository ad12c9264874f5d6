package merkle

import (
	"slices"

	"hansard/api"
	"hansard/digest"
)

// text returns what is hashed under a tag.
func text(tag string, parts ...[]byte) []byte {
	start := digest.Sum([]byte(tag))
	b := start[:]
	for _, part := range parts {
		b = append(b, part...)
	}
	return b
}

func leafText(leaf []byte) []byte { return text("leaf", leaf) }

func nodeText(left, right api.Digest) []byte { return text("node", left[:], right[:]) }

// join returns the digest of the next row that follows from two neighbours, or from the last digest if it is left alone.
func join(row ...api.Digest) api.Digest {
	if len(row) == 1 {
		return row[0]
	}
	return digest.Sum(nodeText(row[0], row[1]))
}

// firstRow returns the digests of the leaves.
func firstRow(l [][]byte) (row []api.Digest) {
	for _, leaf := range l {
		row = append(row, digest.Sum(leafText(leaf)))
	}
	return row
}

// nextRow returns the row that follows a row.
func nextRow(row []api.Digest) (next []api.Digest) {
	for pair := range slices.Chunk(row, 2) {
		next = append(next, join(pair...))
	}
	return next
}
