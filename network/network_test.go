package network

import (
	"bytes"
	"math"
	"math/rand"
	"reflect"
	"slices"
	"testing"

	"signatory/api"
)

// packet is a packet with some data.
func packet(from, to int, data string) api.Packet {
	return api.Packet{From: from, To: to, Data: []byte(data)}
}

// links are links with some packets, and the pairs a, b, a, b, and so on apart.
func links(queue []api.Packet, apart ...int) (n api.Net) {
	n.Queue = queue
	for p := range slices.Chunk(apart, 2) {
		n.Apart = append(n.Apart, [2]int{p[0], p[1]})
	}
	return n
}

// some are the packets a, b, c and so on, from different parties to different ones.
func some(k int) (l []api.Packet) {
	for i := range k {
		l = append(l, packet(i%5, i%5+1+i/5%5, string(rune('a'+i))))
	}
	return l
}

// full are packets to the limit.
func full() []api.Packet { return slices.Repeat(some(4), api.MaxPackets/4) }

// big is a packet with so many bytes.
func big(size int) api.Packet { return api.Packet{From: 23, To: 0, Data: make([]byte, size)} }

// all are all pairs of parties, in order.
func all() (l []int) {
	for a := range api.MaxNodes {
		for b := a + 1; b < api.MaxNodes; b++ {
			l = append(l, a, b)
		}
	}
	return l
}

// equalPackets reports whether packets are equal; nil is as good as an empty slice.
func equalPackets(p, q api.Packet) bool {
	return p.From == q.From && p.To == q.To && bytes.Equal(p.Data, q.Data)
}

// equal reports whether links are equal.
func equal(n, m api.Net) bool {
	return slices.EqualFunc(n.Queue, m.Queue, equalPackets) && slices.Equal(n.Apart, m.Apart)
}

// clone copies links with all of their memory.
func clone(n api.Net) api.Net {
	n.Queue, n.Apart = slices.Clone(n.Queue), slices.Clone(n.Apart)
	for i, p := range n.Queue {
		n.Queue[i].Data = slices.Clone(p.Data)
	}
	return n
}

// want checks links and the error that came with them.
func want(t *testing.T, name string, n api.Net, e api.Errno, expected api.Net, err api.Errno) {
	t.Helper()
	if e != err || !equal(n, expected) {
		t.Errorf("%s: %d packets, apart %v, error %d; not %d packets, apart %v, error %d (or other packets)",
			name, len(n.Queue), n.Apart, e, len(expected.Queue), expected.Apart, err)
	}
	if Check(n) != api.OK {
		t.Errorf("%s: links that are not valid", name)
	}
}

// must takes links that come without an error.
func must(t *testing.T) func(n api.Net, e api.Errno) api.Net {
	return func(n api.Net, e api.Errno) api.Net {
		t.Helper()
		if e != api.OK {
			t.Fatalf("error %d", e)
		}
		return n
	}
}

// P6.1: New returns valid links, with nothing in them.
func TestNew(t *testing.T) {
	if n := New(); len(n.Queue) != 0 || len(n.Apart) != 0 || Check(n) != api.OK {
		t.Error(n, Check(n))
	}
}

// validPackets are packets at the edges of what is valid.
func validPackets() []api.Packet {
	return []api.Packet{
		packet(0, 1, ""), packet(1, 0, "a"), packet(0, 23, "a"), packet(23, 0, "a"), packet(22, 23, "\x00\xff"),
		{From: 5, To: 4}, big(1<<20 - 1), big(1 << 20),
	}
}

// invalidPackets are packets that are not valid for one reason each.
func invalidPackets() []api.Packet {
	return []api.Packet{
		{}, packet(0, 0, "a"), packet(3, 3, ""), packet(23, 23, "a"),
		packet(-1, 0, ""), packet(0, -1, ""), packet(24, 0, ""), packet(0, 24, ""),
		packet(math.MinInt, 0, ""), packet(0, math.MaxInt, ""), packet(1<<32, 1, ""), packet(1, -1<<32, ""),
		packet(256, 1, ""), packet(-1, 24, ""), big(1<<20 + 1), big(1 << 21),
	}
}

// validNets are links at the edges of what is valid.
func validNets() []api.Net {
	l := []api.Net{
		{}, {Queue: []api.Packet{}, Apart: [][2]int{}},
		links(validPackets()), links(some(9)), links(full()), links(full()[1:]),
		links(nil, 0, 1), links(nil, 0, 23), links(nil, 22, 23),
		links(nil, 0, 1, 0, 2), links(nil, 0, 23, 1, 2), links(nil, 3, 9, 4, 5, 4, 7, 21, 22),
		links(some(3), 0, 1), links(full(), all()...), links(nil, all()...),
	}
	return l
}

// invalidNets are links that are not valid for one reason each.
func invalidNets() (l []api.Net) {
	for _, p := range invalidPackets() {
		l = append(l, links([]api.Packet{p}), links([]api.Packet{packet(0, 1, ""), packet(1, 2, ""), p}),
			links([]api.Packet{p, packet(0, 1, "")}), links(slices.Concat(full()[1:], []api.Packet{p})))
	}
	return append(l,
		links(append(full(), packet(0, 1, ""))), links(slices.Repeat(full(), 2)),
		links(nil, 1, 0), links(nil, 23, 0), links(nil, 0, 0), links(nil, 7, 7), links(nil, 23, 23),
		links(nil, -1, 0), links(nil, -2, -1), links(nil, 0, 24), links(nil, 23, 24), links(nil, 24, 25),
		links(nil, math.MinInt, 1), links(nil, 1, math.MaxInt), links(nil, 1, 1<<32+2),
		links(nil, 0, 1, 0, 1), links(nil, 0, 2, 0, 1), links(nil, 1, 2, 0, 3), links(nil, 1, 2, 0, 1),
		links(nil, 0, 1, 0, 2, 0, 2), links(nil, 0, 1, 2, 3, 1, 2), links(nil, 0, 1, 2, 1), links(nil, 0, 1, 1, 1),
		links(nil, 0, 1, 0, 0), links(nil, 0, 1, 0, 24), links(nil, 0, 1, -1, 2), links(some(2), 3, 2),
		links(nil, append(all(), 22, 23)...))
}

// P6.1: Check accepts valid links only, at every edge.
func TestCheck(t *testing.T) {
	for i, n := range validNets() {
		if e := Check(n); e != api.OK {
			t.Errorf("valid links %d: error %d", i, e)
		}
	}
	for i, n := range invalidNets() {
		if e := Check(n); e != api.ErrNet {
			t.Errorf("invalid links %d: error %d", i, e)
		}
	}
}

// P6.1, P6.2, P6.3: every function refuses links that are not valid, before anything else.
func TestInvalid(t *testing.T) {
	for _, n := range invalidNets() {
		for _, p := range []api.Packet{packet(0, 1, "a"), packet(3, 3, "")} {
			x, e := Send(n, p)
			want(t, "Send", x, e, api.Net{}, api.ErrNet)
		}
		for _, at := range []int{-1, 0, len(n.Queue) - 1, len(n.Queue), math.MaxInt} {
			p, x, e := Deliver(n, at)
			want(t, "Deliver", x, e, api.Net{}, api.ErrNet)
			if !equalPackets(p, api.Packet{}) {
				t.Error(p)
			}
			x, e = Lose(n, at)
			want(t, "Lose", x, e, api.Net{}, api.ErrNet)
			x, e = Repeat(n, at)
			want(t, "Repeat", x, e, api.Net{}, api.ErrNet)
		}
		for _, p := range [][2]int{{0, 1}, {2, 2}, {-1, 24}} {
			x, e := Cut(n, p[0], p[1], true)
			want(t, "Cut", x, e, api.Net{}, api.ErrNet)
			x, e = Cut(n, p[0], p[1], false)
			want(t, "Cut", x, e, api.Net{}, api.ErrNet)
		}
	}
}

// P6.1: Send puts a packet at the end of the queue, also where the link is cut.
func TestSend(t *testing.T) {
	for _, p := range validPackets() {
		for _, n := range []api.Net{{}, links(some(9)), links(full()[1:]), links(some(3), 0, 1, 0, 23, 4, 5)} {
			x, e := Send(n, p)
			want(t, "Send", x, e, api.Net{Queue: slices.Concat(n.Queue, []api.Packet{p}), Apart: n.Apart}, api.OK)
		}
	}
	n := New()
	for i, p := range full() {
		n = must(t)(Send(n, p))
		if len(n.Queue) != i+1 || !equalPackets(n.Queue[i], p) {
			t.Fatal(i, len(n.Queue))
		}
	}
	want(t, "Send to the limit", n, api.OK, links(full()), api.OK)
}

// P6.1: Send refuses packets that are not valid, and then one packet too many.
func TestSendErrors(t *testing.T) {
	for _, p := range invalidPackets() {
		for _, n := range []api.Net{{}, links(some(9), 0, 1), links(full())} {
			x, e := Send(n, p)
			want(t, "Send an invalid packet", x, e, api.Net{}, api.ErrNet)
		}
	}
	for _, p := range validPackets() {
		x, e := Send(links(full(), 0, 1), p)
		want(t, "Send too many", x, e, api.Net{}, api.ErrLimit)
	}
}

// P6.2: Deliver returns the packet, and the others in their order.
func TestDeliver(t *testing.T) {
	for _, k := range []int{1, 2, 3, 9} {
		for at := range k {
			l := some(k)
			p, x, e := Deliver(links(l, 7, 8, 22, 23), at)
			want(t, "Deliver", x, e, links(slices.Delete(some(k), at, at+1), 7, 8, 22, 23), api.OK)
			if !equalPackets(p, l[at]) {
				t.Error(k, at, p)
			}
		}
	}
	for _, at := range []int{0, 1, 2047, 4095} {
		p, x, e := Deliver(links(full()), at)
		want(t, "Deliver", x, e, links(slices.Delete(full(), at, at+1)), api.OK)
		if !equalPackets(p, full()[at]) {
			t.Error(at, p)
		}
	}
	for _, q := range validPackets() {
		p, x, e := Deliver(links([]api.Packet{q}), 0)
		want(t, "Deliver", x, e, api.Net{}, api.OK)
		if !equalPackets(p, q) {
			t.Error(p.From, p.To, len(p.Data))
		}
	}
}

// P6.2: over a link that is cut, in either direction, a zero packet is delivered.
func TestDeliverApart(t *testing.T) {
	l := []api.Packet{packet(1, 3, "a"), packet(3, 1, "b"), packet(1, 2, "c"), packet(2, 3, "d"), packet(3, 0, "e"), packet(13, 1, "f")}
	for _, x := range []struct {
		apart []int
		lost  string
	}{{nil, ""}, {[]int{1, 3}, "ab"}, {[]int{0, 1, 1, 2}, "c"}, {[]int{0, 3, 1, 3, 2, 3}, "abde"}, {[]int{1, 13}, "f"}, {[]int{0, 23, 4, 5}, ""}, {all(), "abcdef"}} {
		for at, q := range l {
			p, y, e := Deliver(links(l, x.apart...), at)
			want(t, "Deliver", y, e, links(slices.Delete(slices.Clone(l), at, at+1), x.apart...), api.OK)
			if bytes.Contains([]byte(x.lost), q.Data) {
				q = api.Packet{}
			}
			if !equalPackets(p, q) {
				t.Error(x.apart, at, p)
			}
		}
	}
}

// P6.2: Lose removes a packet, over whatever link.
func TestLose(t *testing.T) {
	for _, k := range []int{1, 2, 3, 9} {
		for at := range k {
			x, e := Lose(links(some(k), 0, 1, 7, 8), at)
			want(t, "Lose", x, e, links(slices.Delete(some(k), at, at+1), 0, 1, 7, 8), api.OK)
		}
	}
	for _, at := range []int{0, 1, 2047, 4095} {
		x, e := Lose(links(full(), all()...), at)
		want(t, "Lose", x, e, links(slices.Delete(full(), at, at+1), all()...), api.OK)
	}
}

// P6.2: Repeat puts a packet at the end once more, which is delivered twice.
func TestRepeat(t *testing.T) {
	for _, k := range []int{1, 2, 3, 9} {
		for at := range k {
			l := some(k)
			x, e := Repeat(links(l, 0, 1, 7, 8), at)
			want(t, "Repeat", x, e, links(append(some(k), l[at]), 0, 1, 7, 8), api.OK)
		}
	}
	x, e := Repeat(links(full()[1:]), 4094)
	want(t, "Repeat", x, e, links(append(full()[1:], full()[4095])), api.OK)

	n := must(t)(Repeat(must(t)(Send(New(), packet(4, 2, "a"))), 0))
	for range 2 {
		p, x, e := Deliver(n, 0)
		if e != api.OK || !equalPackets(p, packet(4, 2, "a")) {
			t.Error(p, e)
		}
		n = x
	}
	want(t, "delivered twice", n, api.OK, New(), api.OK)
}

// P6.2: all three functions return ErrArg unless there is such a packet, and Repeat ErrLimit after that.
func TestNoPacket(t *testing.T) {
	for _, n := range []api.Net{{}, links(some(1)), links(some(9), 0, 1), links(full())} {
		k := len(n.Queue)
		for _, at := range []int{math.MinInt, -1 << 32, -k, -1, k, k + 1, 4096, 1 << 32, math.MaxInt} {
			if at >= 0 && at < k {
				continue
			}
			p, x, e := Deliver(n, at)
			want(t, "Deliver", x, e, api.Net{}, api.ErrArg)
			if !equalPackets(p, api.Packet{}) {
				t.Error(p)
			}
			x, e = Lose(n, at)
			want(t, "Lose", x, e, api.Net{}, api.ErrArg)
			x, e = Repeat(n, at)
			want(t, "Repeat", x, e, api.Net{}, api.ErrArg)
		}
	}
	for _, at := range []int{0, 7, 4095} {
		x, e := Repeat(links(full(), 0, 1), at)
		want(t, "Repeat", x, e, api.Net{}, api.ErrLimit)
	}
}

// P6.3: the pairs apart are those that were cut and not mended, whatever the order of their parties.
func TestCut(t *testing.T) {
	n := links(some(2))
	for _, x := range []struct {
		a, b  int
		on    bool
		apart []int
	}{
		{2, 3, false, nil}, {3, 1, true, []int{1, 3}}, {3, 1, true, []int{1, 3}}, {1, 3, true, []int{1, 3}},
		{0, 23, true, []int{0, 23, 1, 3}}, {1, 2, true, []int{0, 23, 1, 2, 1, 3}}, {23, 22, true, []int{0, 23, 1, 2, 1, 3, 22, 23}},
		{2, 3, false, []int{0, 23, 1, 2, 1, 3, 22, 23}}, {3, 1, false, []int{0, 23, 1, 2, 22, 23}}, {1, 3, false, []int{0, 23, 1, 2, 22, 23}},
		{0, 23, false, []int{1, 2, 22, 23}}, {22, 23, false, []int{1, 2}}, {2, 1, false, nil}, {0, 1, true, []int{0, 1}},
	} {
		y, e := Cut(n, x.a, x.b, x.on)
		want(t, "Cut", y, e, links(some(2), x.apart...), api.OK)
		n = y
	}
	x, e := Cut(New(), 3, 1, true)
	want(t, "the chapter's example", x, e, links(nil, 1, 3), api.OK)
	for pair := range slices.Chunk(all(), 2) {
		x, e := Cut(links(full(), all()...), pair[1], pair[0], true)
		want(t, "Cut among all", x, e, links(full(), all()...), api.OK)
		x, e = Cut(x, pair[0], pair[1], false)
		rest := slices.DeleteFunc(links(nil, all()...).Apart, func(q [2]int) bool { return q[0] == pair[0] && q[1] == pair[1] })
		want(t, "mend among all", x, e, api.Net{Queue: full(), Apart: rest}, api.OK)
	}
}

// P6.3: Cut returns ErrArg unless it is about two parties.
func TestCutErrors(t *testing.T) {
	for _, n := range []api.Net{{}, links(some(9), 0, 1), links(full(), all()...)} {
		for _, p := range [][2]int{{2, 2}, {0, 0}, {23, 23}, {-1, 0}, {0, -1}, {24, 0}, {0, 24}, {-1, 24}, {-1, -1}, {24, 24}, {math.MinInt, 1}, {1, math.MaxInt}, {1 << 32, 1}, {1, 1<<32 + 2}} {
			for _, on := range []bool{true, false} {
				x, e := Cut(n, p[0], p[1], on)
				want(t, "Cut", x, e, api.Net{}, api.ErrArg)
			}
		}
	}
}

// P6.2, P6.3: an iterator over the pairs that remain stops when it is told to.
func TestOthers(t *testing.T) {
	for q := range others([][2]int{{0, 1}, {0, 2}, {1, 2}}, [2]int{0, 1}) {
		if q != [2]int{0, 2} {
			t.Error(q)
		}
		break
	}
}

// P6.4: without losses, repetitions and cuts, each packet is delivered once, in every order.
func TestOrders(t *testing.T) {
	l := some(6)
	var deliver func(n api.Net, got string, orders map[string]bool)
	deliver = func(n api.Net, got string, orders map[string]bool) {
		if len(n.Queue) == 0 {
			orders[got] = true
		}
		for at := range n.Queue {
			p, x, e := Deliver(n, at)
			if e != api.OK || !slices.ContainsFunc(l, func(q api.Packet) bool { return equalPackets(p, q) }) {
				t.Fatal(p, e)
			}
			deliver(x, got+string(p.Data), orders)
		}
	}
	n, orders := New(), map[string]bool{}
	for _, p := range l {
		n = must(t)(Send(n, p))
	}
	deliver(n, "", orders)
	if len(orders) != 720 {
		t.Error(len(orders), "orders")
	}
	for s := range orders {
		b := []byte(s)
		slices.Sort(b)
		if string(b) != "abcdef" {
			t.Error(s)
		}
	}
}

// P6.4: a cut works in both directions, on this link only, for packets sent before, during and after it.
func TestDirections(t *testing.T) {
	for pair := range slices.Chunk(all(), 2) {
		for from := range api.MaxNodes {
			for to := range api.MaxNodes {
				if from == to {
					continue
				}
				q := packet(from, to, "a")
				n := must(t)(Send(New(), q))
				n = must(t)(Cut(n, pair[1], pair[0], true))
				n = must(t)(Send(n, q))
				on := slices.Contains(pair, from) && slices.Contains(pair, to)
				for at := range 2 {
					p, _, e := Deliver(n, at)
					if e != api.OK || equalPackets(p, q) == on || equalPackets(p, api.Packet{}) != on {
						t.Fatal(pair, from, to, p, e)
					}
				}
				n = must(t)(Cut(n, pair[0], pair[1], false))
				if p, _, e := Deliver(n, 1); e != api.OK || !equalPackets(p, q) {
					t.Fatal(pair, from, to, p, e)
				}
			}
		}
	}
}

// model is what links are, in another form: all packets that were ever sent, which of them are on their way, and which pairs are cut, in both directions.
type model struct {
	sent []api.Packet
	way  []int
	cut  [api.MaxNodes][api.MaxNodes]bool
}

// net is a model as links.
func (m *model) net() (n api.Net) {
	for _, k := range m.way {
		n.Queue = append(n.Queue, m.sent[k])
	}
	for a := range m.cut {
		for b := a + 1; b < len(m.cut); b++ {
			if m.cut[a][b] {
				n.Apart = append(n.Apart, [2]int{a, b})
			}
		}
	}
	return n
}

// take takes a packet off its way.
func (m *model) take(at int) api.Packet {
	k := m.way[at]
	var rest []int
	for i, w := range m.way {
		if i != at {
			rest = append(rest, w)
		}
	}
	m.way = rest
	return m.sent[k]
}

// party reports whether a is the number of a party.
func party(a int) bool { return 0 <= a && a <= 23 }

// step does the same to links and to their model, and compares them.
func step(t *testing.T, n api.Net, m *model, kind, a, b int, data []byte) api.Net {
	t.Helper()
	x, e, err := n, api.OK, api.OK
	var p, q api.Packet
	switch kind % 5 {
	case 0:
		x, e = Send(n, api.Packet{From: a, To: b, Data: data})
		if a == b || !party(a) || !party(b) {
			err = api.ErrNet
		} else if len(m.way) == 4096 {
			err = api.ErrLimit
		} else {
			m.way = append(m.way, len(m.sent))
			m.sent = append(m.sent, api.Packet{From: a, To: b, Data: data})
		}
	case 1, 2, 3:
		if b < 0 || b >= len(m.way) {
			err = api.ErrArg
		}
		switch kind % 5 {
		case 1:
			p, x, e = Deliver(n, b)
			if err == api.OK {
				q = m.take(b)
				if m.cut[q.From][q.To] {
					q = api.Packet{}
				}
			}
		case 2:
			x, e = Lose(n, b)
			if err == api.OK {
				m.take(b)
			}
		case 3:
			x, e = Repeat(n, b)
			if err == api.OK && len(m.way) == 4096 {
				err = api.ErrLimit
			} else if err == api.OK {
				m.way = append(m.way, m.way[b])
			}
		}
	case 4:
		on := len(data)%2 == 0
		x, e = Cut(n, a, b, on)
		if a == b || !party(a) || !party(b) {
			err = api.ErrArg
		} else {
			m.cut[a][b], m.cut[b][a] = on, on
		}
	}
	if !equalPackets(p, q) {
		t.Fatalf("delivered %v, not %v", p, q)
	}
	if err != api.OK {
		want(t, "refused", x, e, api.Net{}, err)
		return n
	}
	want(t, "step", x, e, m.net(), api.OK)
	return x
}

// P6.1 to P6.4: all short sequences of calls with three parties lead where the model leads.
func TestSequences(t *testing.T) {
	type call struct {
		kind, a, b int
		data       string
	}
	calls := []call{{0, 0, 1, "a"}, {0, 1, 0, "b"}, {0, 2, 1, "c"}, {0, 1, 1, "d"}, {1, 0, 0, ""}, {1, 0, 1, ""}, {2, 0, 0, ""}, {2, 0, 1, ""}, {3, 0, 0, ""}, {3, 0, 1, ""}, {4, 0, 1, ""}, {4, 1, 0, "x"}, {4, 2, 1, ""}}
	var walk func(n api.Net, m model, left int)
	walk = func(n api.Net, m model, left int) {
		if left == 0 || t.Failed() {
			return
		}
		for _, c := range calls {
			k := model{sent: slices.Clip(m.sent), way: slices.Clip(m.way), cut: m.cut}
			x := step(t, n, &k, c.kind, c.a, c.b, []byte(c.data))
			walk(x, k, left-1)
		}
	}
	walk(New(), model{}, 4)
}

// P6.1 to P6.4: long sequences of calls lead where the model leads.
func TestRandomSequences(t *testing.T) {
	r := rand.New(rand.NewSource(6))
	for range 300 {
		n, m := New(), &model{}
		parties, sends := 2+r.Intn(23), 1+r.Intn(4)
		for range 120 {
			kind := r.Intn(5 + sends)
			if kind > 4 {
				kind = 0
			}
			data := make([]byte, r.Intn(4))
			r.Read(data)
			b := r.Intn(parties + 1)
			if kind > 0 && kind < 4 {
				b = r.Intn(len(m.way)+2) - 1
			}
			n = step(t, n, m, kind, r.Intn(parties+1)-r.Intn(2), b, data)
			if t.Failed() {
				return
			}
		}
	}
}

// P6.1 to P6.4: whatever calls there are, links are what their model is.
func FuzzNet(f *testing.F) {
	f.Add([]byte{0, 0, 1, 0, 1, 0, 3, 0, 1, 4, 0, 1, 1, 0, 0, 1, 0, 0})
	f.Add([]byte{0, 23, 0, 4, 0, 23, 1, 0, 0, 9, 23, 0, 2, 0, 0})
	f.Fuzz(func(t *testing.T, calls []byte) {
		n, m := New(), &model{}
		for c := range slices.Chunk(calls[:min(len(calls), 600)], 3) {
			if len(c) < 3 {
				break
			}
			n = step(t, n, m, int(c[0]%5), int(int8(c[1])), int(int8(c[2])), make([]byte, c[0]/5))
		}
	})
}

// P6.1 to P6.3 (R2, R6): no call changes its arguments, earlier results or their spare memory, and equal calls return equal results.
func TestPure(t *testing.T) {
	queue := append(make([]api.Packet, 0, 64), some(9)...)
	apart := append(make([][2]int, 0, 64), [2]int{0, 1}, [2]int{1, 2}, [2]int{7, 8})
	n := api.Net{Queue: queue, Apart: apart}
	spare, before := clone(api.Net{Queue: queue[:64], Apart: apart[:64]}), clone(n)
	calls := []func() (api.Packet, api.Net, api.Errno){}
	net := func(f func() (api.Net, api.Errno)) {
		calls = append(calls, func() (p api.Packet, x api.Net, e api.Errno) { x, e = f(); return p, x, e })
	}
	for at := -1; at < 10; at++ {
		calls = append(calls, func() (api.Packet, api.Net, api.Errno) { return Deliver(n, at) })
		net(func() (api.Net, api.Errno) { return Lose(n, at) })
		net(func() (api.Net, api.Errno) { return Repeat(n, at) })
		for _, on := range []bool{true, false} {
			net(func() (api.Net, api.Errno) { return Cut(n, at, 2, on) })
			net(func() (api.Net, api.Errno) { return Cut(n, 1, at, on) })
		}
		net(func() (api.Net, api.Errno) { return Send(n, packet(at, 4, "x")) })
	}
	var packets []api.Packet
	var nets, copies []api.Net
	for _, f := range calls {
		p, x, _ := f()
		packets, nets, copies = append(packets, p), append(nets, x), append(copies, clone(x))
		// What is done to a result must not show in another one.
		for at := range x.Queue {
			Deliver(x, at)
			Repeat(x, at)
		}
		Send(x, packet(9, 3, "later"))
		Cut(x, 0, 1, false)
		Cut(x, 0, 5, true)
	}
	for i, f := range calls {
		p, x, _ := f()
		if !equal(nets[i], copies[i]) || !equal(x, copies[i]) || !equalPackets(p, packets[i]) {
			t.Errorf("call %d: other results", i)
		}
	}
	if !equal(n, before) || !reflect.DeepEqual(clone(api.Net{Queue: queue[:64], Apart: apart[:64]}), spare) {
		t.Error("the argument was changed")
	}
}

// P6.1 to P6.3 (R3): nil is as good as an empty slice.
func TestEmpty(t *testing.T) {
	empty := api.Net{Queue: []api.Packet{}, Apart: [][2]int{}}
	p := api.Packet{From: 0, To: 1, Data: []byte{}}
	for _, n := range []api.Net{{}, empty, {Queue: empty.Queue}, {Apart: empty.Apart}} {
		for _, q := range []api.Packet{p, {From: 0, To: 1}} {
			x, e := Send(n, q)
			want(t, "Send", x, e, links([]api.Packet{p}), api.OK)
			x, e = Cut(n, 1, 0, true)
			want(t, "Cut", x, e, links(nil, 0, 1), api.OK)
			x, e = Cut(n, 1, 0, false)
			want(t, "Cut", x, e, api.Net{}, api.OK)
			got, x, e := Deliver(api.Net{Queue: []api.Packet{q}, Apart: n.Apart}, 0)
			want(t, "Deliver", x, e, api.Net{}, api.OK)
			if !equalPackets(got, p) {
				t.Error(got)
			}
		}
	}
}
