package network

import (
	"bytes"
	"fmt"
	"math"
	"math/rand/v2"
	"reflect"
	"slices"
	"strings"
	"testing"

	"hansard/api"
)

// packet returns a packet that carries a text.
func packet(from, to int, s string) api.Packet {
	return api.Packet{From: from, To: to, Data: []byte(s)}
}

// links returns links with packets, of which none is cut.
func links(l ...api.Packet) api.Net { return api.Net{Queue: l} }

// apart returns n with pairs that are cut.
func apart(n api.Net, l ...[2]int) api.Net { n.Apart = l; return n }

// crowd returns links with so many packets, which carry their numbers.
func crowd(many int) api.Net {
	l := make([]api.Packet, many)
	for i := range l {
		l[i] = packet(i%24, (i+1)%24, fmt.Sprint(i))
	}
	return api.Net{Queue: l}
}

// allPairs returns all the pairs of parties in order.
func allPairs() (l [][2]int) {
	for a := range 24 {
		for b := a + 1; b < 24; b++ {
			l = append(l, [2]int{a, b})
		}
	}
	return l
}

func samePacket(p, q api.Packet) bool {
	return p.From == q.From && p.To == q.To && bytes.Equal(p.Data, q.Data)
}

func same(a, b api.Net) bool {
	return slices.EqualFunc(a.Queue, b.Queue, samePacket) && slices.Equal(a.Apart, b.Apart)
}

// texts returns what packets are, in a line.
func texts(l ...api.Packet) string {
	var words []string
	for _, p := range l {
		words = append(words, fmt.Sprintf("%d>%d:%s", p.From, p.To, p.Data))
	}
	return strings.Join(words, " ")
}

// deepCopy returns links that share no memory with n.
func deepCopy(n api.Net) (c api.Net) {
	for _, p := range n.Queue {
		c.Queue = append(c.Queue, api.Packet{From: p.From, To: p.To, Data: bytes.Clone(p.Data)})
	}
	c.Apart = slices.Clone(n.Apart)
	return c
}

var validPackets = []struct {
	name string
	p    api.Packet
}{
	{"no data", api.Packet{From: 0, To: 1}},
	{"empty data", api.Packet{From: 0, To: 1, Data: []byte{}}},
	{"the first party to the last one", packet(0, 23, "a")},
	{"the last party to the first one", packet(23, 0, "a")},
	{"neighbours at the end", packet(22, 23, "a")},
	{"2^20 bytes", api.Packet{From: 5, To: 3, Data: make([]byte, 1<<20)}},
}

var wrongPackets = []struct {
	name string
	p    api.Packet
}{
	{"the zero packet", api.Packet{}},
	{"a packet to oneself", packet(3, 3, "a")},
	{"a packet of the last party to itself", packet(23, 23, "a")},
	{"From 24", packet(24, 0, "a")},
	{"To 24", packet(0, 24, "a")},
	{"From -1", packet(-1, 0, "a")},
	{"To -1", packet(0, -1, "a")},
	{"both below", packet(-2, -1, "a")},
	{"both above", packet(24, 25, "a")},
	{"both far away", packet(math.MinInt, math.MaxInt, "a")},
	{"From far above", packet(math.MaxInt, 1, "a")},
	{"To far below", packet(1, math.MinInt, "a")},
	{"2^20 + 1 bytes", api.Packet{From: 5, To: 3, Data: make([]byte, 1<<20+1)}},
}

var validNets = []struct {
	name string
	n    api.Net
}{
	{"no packets", api.Net{}},
	{"empty lists", api.Net{Queue: []api.Packet{}, Apart: [][2]int{}}},
	{"one packet", links(packet(1, 0, "a"))},
	{"equal packets", links(packet(1, 0, "a"), packet(1, 0, "a"))},
	{"4096 packets", crowd(4096)},
	{"one pair", apart(api.Net{}, [2]int{0, 1})},
	{"the last pair", apart(api.Net{}, [2]int{22, 23})},
	{"pairs with one first number", apart(api.Net{}, [2]int{3, 4}, [2]int{3, 5})},
	{"pairs with one second number", apart(api.Net{}, [2]int{3, 9}, [2]int{4, 9})},
	{"pairs with falling second numbers", apart(api.Net{}, [2]int{3, 9}, [2]int{4, 5})},
	{"all pairs", apart(crowd(3), allPairs()...)},
}

var wrongNets = []struct {
	name string
	n    api.Net
}{
	{"4097 packets", crowd(4097)},
	{"a wrong first packet", links(packet(3, 3, "a"), packet(1, 2, "b"))},
	{"a wrong last packet", links(packet(1, 2, "b"), packet(2, 1, "c"), packet(24, 3, "a"))},
	{"equal numbers", apart(api.Net{}, [2]int{2, 2})},
	{"the greater number first", apart(api.Net{}, [2]int{2, 1})},
	{"a number above", apart(api.Net{}, [2]int{2, 24})},
	{"a number below", apart(api.Net{}, [2]int{-1, 2})},
	{"both numbers above", apart(api.Net{}, [2]int{24, 25})},
	{"both numbers below", apart(api.Net{}, [2]int{-2, -1})},
	{"numbers far away", apart(api.Net{}, [2]int{math.MinInt, math.MaxInt})},
	{"a pair twice", apart(api.Net{}, [2]int{1, 2}, [2]int{1, 2})},
	{"a pair in both directions", apart(api.Net{}, [2]int{1, 2}, [2]int{2, 1})},
	{"falling first numbers", apart(api.Net{}, [2]int{2, 3}, [2]int{1, 4})},
	{"falling second numbers", apart(api.Net{}, [2]int{1, 4}, [2]int{1, 3})},
	{"a fall behind the second pair", apart(api.Net{}, [2]int{1, 2}, [2]int{3, 4}, [2]int{2, 3})},
	{"the last pair twice", apart(api.Net{}, [2]int{1, 2}, [2]int{3, 4}, [2]int{3, 4})},
	{"a wrong last pair", apart(crowd(3), append(allPairs(), [2]int{23, 23})...)},
	{"a wrong pair in the middle", apart(api.Net{}, [2]int{1, 2}, [2]int{4, 3}, [2]int{5, 6})},
}

// P6.1: New returns valid links without packets, of which none is cut.
func TestNew(t *testing.T) {
	n := New()
	if len(n.Queue) != 0 || len(n.Apart) != 0 || Check(n) != api.OK {
		t.Error(n, Check(n))
	}
}

// P6.1: Check accepts the links that the chapter calls valid, and no others.
func TestCheck(t *testing.T) {
	for _, x := range validNets {
		if e := Check(x.n); e != api.OK {
			t.Error(x.name, e)
		}
	}
	for _, x := range wrongNets {
		if e := Check(x.n); e != api.ErrNet {
			t.Error(x.name, e)
		}
	}
	for _, x := range validPackets {
		if e := Check(links(packet(1, 2, "a"), x.p)); e != api.OK {
			t.Error(x.name, e)
		}
	}
	for _, x := range wrongPackets {
		if e := Check(links(x.p, packet(1, 2, "a"))); e != api.ErrNet {
			t.Error(x.name, e)
		}
	}
}

// P6.1: every pair of numbers around the limits, as a packet and as a pair of links that are cut.
func TestCheckNumbers(t *testing.T) {
	for a := -2; a < 27; a++ {
		for b := -2; b < 27; b++ {
			inside := 0 <= a && a <= 23 && 0 <= b && b <= 23
			if got, want := Check(links(packet(a, b, ""))) == api.OK, inside && a != b; got != want {
				t.Errorf("a packet from %d to %d: %v", a, b, got)
			}
			if got, want := Check(apart(api.Net{}, [2]int{a, b})) == api.OK, inside && a < b; got != want {
				t.Errorf("the pair (%d, %d): %v", a, b, got)
			}
		}
	}
}

// P6.1: two pairs are accepted exactly if the first one is less.
func TestCheckOrder(t *testing.T) {
	l := allPairs()
	for i, p := range l {
		for k, q := range l {
			if got := Check(apart(api.Net{}, p, q)) == api.OK; got != (i < k) {
				t.Fatal(p, q, got)
			}
		}
	}
}

// P6.1 to P6.3: all functions but New return ErrNet, and nothing else, unless the links are valid.
func TestWrongNets(t *testing.T) {
	for _, x := range wrongNets {
		for _, at := range []int{0, -1, 5000} {
			if n, e := Send(x.n, packet(1, 1+at, "a")); e != api.ErrNet || !same(n, api.Net{}) {
				t.Error("Send:", x.name, e)
			}
			if p, n, e := Deliver(x.n, at); e != api.ErrNet || !same(n, api.Net{}) || !samePacket(p, api.Packet{}) {
				t.Error("Deliver:", x.name, e)
			}
			if n, e := Lose(x.n, at); e != api.ErrNet || !same(n, api.Net{}) {
				t.Error("Lose:", x.name, e)
			}
			if n, e := Repeat(x.n, at); e != api.ErrNet || !same(n, api.Net{}) {
				t.Error("Repeat:", x.name, e)
			}
			if n, e := Cut(x.n, 1, 1+at, at == 0); e != api.ErrNet || !same(n, api.Net{}) {
				t.Error("Cut:", x.name, e)
			}
		}
	}
}

// P6.1: Send puts a packet at the end, also if its link is cut.
func TestSend(t *testing.T) {
	cut := apart(links(packet(1, 2, "a")), allPairs()...)
	for _, n := range []api.Net{New(), links(packet(5, 6, "z"), packet(1, 2, "a")), cut, crowd(4095)} {
		for _, x := range validPackets {
			want := deepCopy(n)
			want.Queue = append(want.Queue, x.p)
			if got, e := Send(n, x.p); e != api.OK || !same(got, want) {
				t.Error(x.name, e)
			}
		}
	}
}

// P6.1: Send refuses wrong packets before it looks for room, and any packet if there is none.
func TestSendErrors(t *testing.T) {
	for _, n := range []api.Net{New(), crowd(4095), crowd(4096)} {
		for _, x := range wrongPackets {
			if got, e := Send(n, x.p); e != api.ErrNet || !same(got, api.Net{}) {
				t.Error(x.name, e)
			}
		}
	}
	for _, x := range validPackets {
		if got, e := Send(crowd(4096), x.p); e != api.ErrLimit || !same(got, api.Net{}) {
			t.Error(x.name, e)
		}
	}
}

// without returns links without the packet at.
func without(n api.Net, at int) api.Net {
	n = deepCopy(n)
	n.Queue = slices.Delete(n.Queue, at, at+1)
	return n
}

// P6.2: Deliver and Lose take any packet out of the queue, in which the others keep their order; Repeat puts it at the end once more.
func TestTake(t *testing.T) {
	for _, many := range []int{1, 2, 3, 4, 4095, 4096} {
		// Neither of these links is one of the packets.
		n := apart(crowd(many), [2]int{0, 2}, [2]int{21, 23})
		for _, at := range []int{0, 1, 2, 3, many / 2, many - 2, many - 1} {
			if at < 0 || at >= many {
				continue
			}
			p, got, e := Deliver(n, at)
			if want := n.Queue[at]; e != api.OK || !samePacket(p, want) || !same(got, without(n, at)) {
				t.Error("Deliver:", many, at, e, texts(p))
			}
			if got, e = Lose(n, at); e != api.OK || !same(got, without(n, at)) {
				t.Error("Lose:", many, at, e)
			}
			want := deepCopy(n)
			want.Queue = append(want.Queue, n.Queue[at])
			wantError := api.OK
			if many == 4096 {
				want, wantError = api.Net{}, api.ErrLimit
			}
			if got, e = Repeat(n, at); e != wantError || !same(got, want) {
				t.Error("Repeat:", many, at, e)
			}
		}
	}
}

// P6.2: ErrArg for what is not an index; this comes before ErrLimit.
func TestTakeErrors(t *testing.T) {
	for _, many := range []int{0, 1, 7, 4096} {
		n := crowd(many)
		for _, at := range []int{-1, many, many + 1, math.MinInt, math.MaxInt, -many - 1} {
			if p, x, e := Deliver(n, at); e != api.ErrArg || !same(x, api.Net{}) || !samePacket(p, api.Packet{}) {
				t.Error("Deliver:", many, at, e)
			}
			if x, e := Lose(n, at); e != api.ErrArg || !same(x, api.Net{}) {
				t.Error("Lose:", many, at, e)
			}
			if x, e := Repeat(n, at); e != api.ErrArg || !same(x, api.Net{}) {
				t.Error("Repeat:", many, at, e)
			}
		}
	}
}

// P6.2 and P6.4: a packet is lost at its delivery exactly if the link between its parties is cut, in both directions.
func TestDeliverCut(t *testing.T) {
	pairs := allPairs()
	for _, cut := range [][][2]int{nil, {{3, 7}}, {{0, 1}, {3, 7}, {22, 23}}, pairs, {{0, 23}}} {
		for from := range 24 {
			for to := range 24 {
				if from == to {
					continue
				}
				n := apart(links(packet(1, 2, "a"), packet(from, to, "b"), packet(2, 1, "c")), cut...)
				want := packet(from, to, "b")
				if slices.Contains(cut, [2]int{from, to}) || slices.Contains(cut, [2]int{to, from}) {
					want = api.Packet{}
				}
				p, x, e := Deliver(n, 1)
				if e != api.OK || !reflect.DeepEqual(p, want) || !same(x, without(n, 1)) {
					t.Error(cut, from, to, e, texts(p))
				}
			}
		}
	}
}

// P6.2: the examples of the chapter, and a packet that is repeated from the middle.
func TestExamples(t *testing.T) {
	if _, _, e := Deliver(New(), 0); e != api.ErrArg {
		t.Error(e)
	}
	if _, e := Send(New(), packet(3, 3, "")); e != api.ErrNet {
		t.Error(e)
	}
	if _, e := Cut(New(), 2, 2, true); e != api.ErrArg {
		t.Error(e)
	}
	if n, e := Cut(New(), 3, 1, true); e != api.OK || !slices.Equal(n.Apart, [][2]int{{1, 3}}) {
		t.Error(n, e)
	}
	n, e := Repeat(links(packet(0, 1, "a"), packet(1, 2, "b"), packet(2, 3, "c")), 1)
	if got := texts(n.Queue...); e != api.OK || got != "0>1:a 1>2:b 2>3:c 1>2:b" {
		t.Error(got, e)
	}
	var all []api.Packet
	for range 4 {
		var p api.Packet
		p, n, e = Deliver(n, len(n.Queue)-1)
		all = append(all, p)
	}
	if got := texts(all...); e != api.OK || got != "1>2:b 2>3:c 1>2:b 0>1:a" || len(n.Queue) != 0 {
		t.Error(got, e)
	}
}

// P6.3: Cut keeps the pairs in order, whatever is cut and mended, once or twice, in whichever direction.
func TestCut(t *testing.T) {
	type call struct {
		a, b int
		on   bool
	}
	for _, x := range []struct {
		calls []call
		want  [][2]int
	}{
		{[]call{{1, 3, true}}, [][2]int{{1, 3}}},
		{[]call{{3, 1, true}}, [][2]int{{1, 3}}},
		{[]call{{0, 23, true}}, [][2]int{{0, 23}}},
		{[]call{{23, 22, true}}, [][2]int{{22, 23}}},
		{[]call{{1, 3, true}, {1, 3, true}}, [][2]int{{1, 3}}},
		{[]call{{1, 3, true}, {3, 1, true}}, [][2]int{{1, 3}}},
		{[]call{{1, 3, true}, {3, 1, false}}, nil},
		{[]call{{1, 3, false}}, nil},
		{[]call{{1, 3, true}, {1, 4, false}, {0, 3, false}}, [][2]int{{1, 3}}},
		{[]call{{1, 3, true}, {1, 2, true}, {1, 4, true}}, [][2]int{{1, 2}, {1, 3}, {1, 4}}},
		{[]call{{2, 3, true}, {4, 1, true}, {3, 5, true}, {0, 9, true}}, [][2]int{{0, 9}, {1, 4}, {2, 3}, {3, 5}}},
		{[]call{{2, 3, true}, {4, 1, true}, {3, 5, true}, {3, 2, false}}, [][2]int{{1, 4}, {3, 5}}},
		{[]call{{2, 3, true}, {4, 1, true}, {3, 5, true}, {1, 4, false}}, [][2]int{{2, 3}, {3, 5}}},
		{[]call{{2, 3, true}, {4, 1, true}, {3, 5, true}, {3, 5, false}}, [][2]int{{1, 4}, {2, 3}}},
	} {
		n, e := links(packet(1, 3, "a"), packet(2, 3, "b")), api.OK
		for _, c := range x.calls {
			if n, e = Cut(n, c.a, c.b, c.on); e != api.OK {
				t.Fatal(x, e)
			}
		}
		if !slices.Equal(n.Apart, x.want) || texts(n.Queue...) != "1>3:a 2>3:b" {
			t.Error(x, n)
		}
	}
}

// P6.3: any two parties can be cut off from each other, and mended, when nobody else is and when everybody is.
func TestCutPairs(t *testing.T) {
	all := allPairs()
	for i, pair := range all {
		n, e := Cut(New(), pair[1], pair[0], true)
		if e != api.OK || !slices.Equal(n.Apart, [][2]int{pair}) {
			t.Error(pair, n, e)
		}
		n, e = Cut(apart(New(), all...), pair[0], pair[1], false)
		if e != api.OK || !slices.Equal(n.Apart, slices.Delete(allPairs(), i, i+1)) {
			t.Error(pair, n, e)
		}
		if n, e = Cut(n, pair[0], pair[1], true); e != api.OK || !slices.Equal(n.Apart, all) {
			t.Error(pair, n, e)
		}
	}
}

// P6.3: ErrArg unless the parties are different numbers between 0 and 23.
func TestCutErrors(t *testing.T) {
	numbers := []int{math.MinInt, -24, -1, 0, 1, 22, 23, 24, 25, math.MaxInt}
	for _, a := range numbers {
		for _, b := range numbers {
			want := api.ErrArg
			if a != b && 0 <= a && a <= 23 && 0 <= b && b <= 23 {
				want = api.OK
			}
			for _, on := range []bool{true, false} {
				n, e := Cut(crowd(2), a, b, on)
				if e != want || e != api.OK && !same(n, api.Net{}) {
					t.Error(a, b, on, e)
				}
			}
		}
	}
}

// P6.2 and P6.3: whoever takes the pairs that remain may stop early.
func TestOthersStops(t *testing.T) {
	for pair := range others(allPairs(), [2]int{0, 1}) {
		if pair != [2]int{0, 2} {
			t.Error(pair)
		}
		break
	}
}

// model is a second description of links: what is on its way, with numbers of the packets, and a table of the links that are cut.
type model struct {
	queue []int
	cut   [24][24]bool
	sent  []api.Packet
}

func (m *model) net() (n api.Net) {
	for _, i := range m.queue {
		n.Queue = append(n.Queue, m.sent[i])
	}
	for a := range 24 {
		for b := a + 1; b < 24; b++ {
			if m.cut[a][b] {
				n.Apart = append(n.Apart, [2]int{a, b})
			}
		}
	}
	return n
}

// take returns the packet at, which leaves the queue.
func (m *model) take(at int) api.Packet {
	p := m.sent[m.queue[at]]
	var rest []int
	for i, q := range m.queue {
		if i != at {
			rest = append(rest, q)
		}
	}
	m.queue = rest
	return p
}

// step performs a random call on links and on their model.
func (m *model) step(t *testing.T, r *rand.Rand, n api.Net) api.Net {
	at, a, b := r.IntN(len(m.queue)+2)-1, r.IntN(24), r.IntN(24)
	right := 0 <= at && at < len(m.queue)
	wantError := api.OK
	if !right {
		wantError = api.ErrArg
	}
	var e api.Errno
	var x api.Net
	switch kind := r.IntN(10); {
	case kind < 3:
		p := packet(a, b, fmt.Sprint(len(m.sent)))
		x, e = Send(n, p)
		wantError = api.ErrNet
		if a != b {
			m.sent = append(m.sent, p)
			m.queue = append(m.queue, len(m.sent)-1)
			wantError = api.OK
		}
	case kind < 5:
		var p, want api.Packet
		p, x, e = Deliver(n, at)
		if right {
			if want = m.take(at); m.cut[want.From][want.To] {
				want = api.Packet{}
			}
		}
		if !reflect.DeepEqual(p, want) {
			t.Fatal("Deliver:", texts(p), texts(want))
		}
	case kind == 5:
		if x, e = Lose(n, at); right {
			m.take(at)
		}
	case kind == 6:
		if x, e = Repeat(n, at); right {
			m.queue = append(m.queue, m.queue[at])
		}
	default:
		on := r.IntN(2) == 0
		x, e = Cut(n, a, b, on)
		wantError = api.ErrArg
		if a != b {
			m.cut[a][b], m.cut[b][a] = on, on
			wantError = api.OK
		}
	}
	if e != wantError || e != api.OK && !same(x, api.Net{}) {
		t.Fatal(e, wantError)
	}
	if e != api.OK {
		return n
	}
	return x
}

// P6.1 to P6.4: long random sequences of calls behave like the model; all results are valid links.
func TestModel(t *testing.T) {
	r := rand.New(rand.NewPCG(6, 1))
	for range 60 {
		n, m := New(), &model{}
		for range 400 {
			n = m.step(t, r, n)
			if want := m.net(); Check(n) != api.OK || !same(n, want) {
				t.Fatal(n, want)
			}
		}
	}
}

// P6.4: without losses, repetitions and cuts each packet is delivered once, as it was sent, in whatever order.
func TestOnce(t *testing.T) {
	r := rand.New(rand.NewPCG(6, 2))
	for range 100 {
		n := New()
		var all, delivered []string
		for range 1 + r.IntN(40) {
			p := packet(r.IntN(12), 12+r.IntN(12), fmt.Sprint(r.IntN(5)))
			if r.IntN(2) == 0 {
				p.From, p.To = p.To, p.From
			}
			all = append(all, texts(p))
			var e api.Errno
			if n, e = Send(n, p); e != api.OK {
				t.Fatal(e)
			}
			for len(n.Queue) > r.IntN(8) {
				if p, n, e = Deliver(n, r.IntN(len(n.Queue))); e != api.OK {
					t.Fatal(e)
				}
				delivered = append(delivered, texts(p))
			}
		}
		for len(n.Queue) > 0 {
			p, x, e := Deliver(n, r.IntN(len(n.Queue)))
			if n = x; e != api.OK {
				t.Fatal(e)
			}
			delivered = append(delivered, texts(p))
		}
		slices.Sort(all)
		slices.Sort(delivered)
		if !slices.Equal(all, delivered) {
			t.Fatal(all, delivered)
		}
	}
}

// P6.2 and P6.4: a packet is delivered as often as its repetitions and losses say, and 4096 times at most.
func TestLostAndRepeated(t *testing.T) {
	n, e := Send(New(), packet(4, 2, "a"))
	for range 4095 {
		if n, e = Repeat(n, len(n.Queue)/2); e != api.OK {
			t.Fatal(e)
		}
	}
	if _, e = Repeat(n, 4095); e != api.ErrLimit {
		t.Error(e)
	}
	if n, e = Lose(n, 4095); e != api.OK {
		t.Error(e)
	}
	many := 0
	for ; len(n.Queue) > 0; many++ {
		var p api.Packet
		if p, n, e = Deliver(n, len(n.Queue)/3); e != api.OK || texts(p) != "4>2:a" {
			t.Fatal(texts(p), e)
		}
	}
	if many != 4095 {
		t.Error(many)
	}
}

// P6.1 to P6.4 (R2): calls change neither their arguments nor earlier results, nor the memory behind the slices of either.
func TestPurity(t *testing.T) {
	queue := []api.Packet{packet(0, 1, "a"), packet(1, 2, "b"), packet(2, 3, "c"), packet(9, 8, "behind"), packet(8, 7, "behind")}
	cut := [][2]int{{0, 5}, {1, 2}, {3, 4}, {7, 7}, {8, 8}}
	n := api.Net{Queue: queue[:3], Apart: cut[:3]}
	wantQueue, wantCut := texts(queue...), slices.Clone(cut)
	results := []api.Net{n}
	keep := func(x api.Net, e api.Errno) {
		if e != api.OK {
			t.Fatal(e)
		}
		results = append(results, x)
	}
	r := rand.New(rand.NewPCG(6, 3))
	var copies []api.Net
	for range 300 {
		copies = copies[:0]
		for _, x := range results {
			copies = append(copies, deepCopy(x))
		}
		x := results[r.IntN(len(results))]
		switch a, b := r.IntN(12), 12+r.IntN(12); {
		case len(x.Queue) == 0 || r.IntN(3) == 0:
			keep(Send(x, packet(a, b, "s")))
		case r.IntN(4) == 0:
			keep(Cut(x, a, b, true))
		case len(x.Apart) > 0 && r.IntN(3) == 0:
			pair := x.Apart[r.IntN(len(x.Apart))]
			keep(Cut(x, pair[1], pair[0], false))
		case r.IntN(3) == 0:
			keep(Repeat(x, r.IntN(len(x.Queue))))
		case r.IntN(2) == 0:
			keep(Lose(x, r.IntN(len(x.Queue))))
		default:
			_, y, e := Deliver(x, r.IntN(len(x.Queue)))
			keep(y, e)
		}
		for i, c := range copies {
			if !same(results[i], c) {
				t.Fatal("an earlier result was changed:", results[i], c)
			}
		}
		if texts(queue...) != wantQueue || !slices.Equal(cut, wantCut) {
			t.Fatal("memory behind the arguments was changed:", texts(queue...), cut)
		}
	}
}

// P6.1 and P6.4: a sender that uses its memory again does not change what it has sent.
func TestSenderMemory(t *testing.T) {
	b := []byte("abc")
	n, e := Send(New(), api.Packet{From: 1, To: 2, Data: b})
	copy(b, "xyz")
	if p, _, f := Deliver(n, 0); e != api.OK || f != api.OK || texts(p) != "1>2:abc" {
		t.Error(texts(p), e, f)
	}
}
