package chain

import (
	"bytes"
	"iter"

	"hansard/api"
	"hansard/codec"
)

// first returns the first index of an element of which something holds, and whether there is one.
func first[T any](l []T, holds func(i int, x T) bool) (i int, ok bool) {
	for i, x := range l {
		if holds(i, x) {
			return i, true
		}
	}
	return 0, false
}

// same reports whether two links are equal in all fields.
func same(x, y api.Link) bool {
	return x.Node == y.Node && x.No == y.No && x.Prev == y.Prev && bytes.Equal(x.Data, y.Data)
}

// isNode reports whether a node has this number.
func isNode(node int) bool { return node >= 0 && node < api.MaxNodes }

// belongsTo reports whether a chain can be that of a node; one without links can be that of any node.
func belongsTo(l []api.Link, node int) bool { return len(l) == 0 || l[0].Node == node }

// isNumbered reports whether links are those of one node, in order, with data that are not too long. No digests are needed for this.
func isNumbered(l []api.Link) bool {
	_, wrong := first(l, func(i int, x api.Link) bool {
		return !isNode(x.Node) || !belongsTo(l, x.Node) || x.No != i || len(x.Data) > api.MaxSource
	})
	return !wrong
}

// isLinked reports whether each link has the head of those before it.
func isLinked(l []api.Link) bool {
	for before, head := range beginnings(l) {
		if l[len(before)].Prev != head {
			return false
		}
	}
	return true
}

// beginnings yields what is before each link, with its head.
func beginnings(l []api.Link) iter.Seq2[[]api.Link, api.Digest] {
	return func(yield func([]api.Link, api.Digest) bool) {
		for i := range l {
			if !yield(l[:i], Head(l[:i])) {
				return
			}
		}
	}
}

// text returns the encoding of the list of values, which are integers and texts, so that there is one.
func text(values ...api.Value) []byte {
	b, _ := codec.Encode(api.Value{Kind: api.ListV, L: values})
	return b
}

// linkText returns the text of which the head of a list with this last link is the digest.
func linkText(x api.Link) []byte {
	return text(number(x.Node), number(x.No), bytesValue(x.Prev[:]), bytesValue(x.Data))
}

func number(n int) api.Value { return api.Value{Kind: api.IntV, N: n} }

func bytesValue(b []byte) api.Value { return api.Value{Kind: api.TextV, S: string(b)} }
