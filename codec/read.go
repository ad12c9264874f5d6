package codec

import "hansard/api"

// reader reads an encoding from its start. Its methods panic where what remains cannot go on like an encoding.
type reader struct {
	remains []byte
	depth   int
}

// readers returns what reads the values of each kind behind the byte of the kind, indexed by the kind.
func readers() [4]func(r *reader) api.Value {
	return [4]func(r *reader) api.Value{
		api.IntV:  (*reader).integer,
		api.TextV: (*reader).text,
		api.ListV: (*reader).list,
	}
}

// readWhole returns the value that is encoded as b. It panics if there is none.
func readWhole(b []byte) api.Value {
	r := reader{remains: b}
	v := r.value()
	r.need(len(r.remains) == 0)
	return v
}

func (r *reader) need(ok bool) {
	if !ok {
		panic(api.ErrCode)
	}
}

// take returns the next n bytes. Neither these nor what remains can be extended into bytes that follow.
func (r *reader) take(n uint64) []byte {
	many := uint64(len(r.remains))
	r.need(n <= many)
	taken := r.remains[:n:n]
	r.remains = r.remains[n:many:many]
	return taken
}

func (r *reader) value() api.Value {
	kind := r.take(1)[0]
	r.need(kind >= api.IntV && kind <= api.ListV)
	return readers()[kind](r)
}

// numeral reads a number. A digit that loses bits where it stands is a number of more than 64 bits.
func (r *reader) numeral() uint64 {
	u := uint64(0)
	for shift := 0; ; shift += 7 {
		b := r.take(1)[0]
		digit := uint64(b % 128)
		r.need(digit<<shift>>shift == digit)
		u |= digit << shift
		if b < 128 {
			r.need(digit > 0 || shift == 0)
			return u
		}
	}
}

func (r *reader) integer() api.Value {
	u := r.numeral()
	n := int(u / 2)
	if u%2 == 1 {
		n = -n - 1
	}
	return api.Value{Kind: api.IntV, N: n}
}

func (r *reader) text() api.Value {
	return api.Value{Kind: api.TextV, S: string(r.take(r.numeral()))}
}

// list lets the elements grow one by one: the number of them may promise more than there is.
func (r *reader) list() api.Value {
	r.depth++
	r.need(r.depth <= api.MaxDepth)
	var elements []api.Value
	for range r.numeral() {
		elements = append(elements, r.value())
	}
	r.depth--
	return api.Value{Kind: api.ListV, L: elements}
}
