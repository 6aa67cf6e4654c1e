package disk

import (
	"bytes"
	"math"
	"math/rand"
	"reflect"
	"slices"
	"testing"

	"signatory/api"
)

// filled is a sector of one byte.
func filled(b byte) []byte { return bytes.Repeat([]byte{b}, api.SectorSize) }

// begun is a sector that begins with the given bytes, and has zero bytes after them.
func begun(b ...byte) []byte { return append(b, make([]byte, api.SectorSize-len(b))...) }

// torn is a sector whose halves consist of one byte each.
func torn(a, b byte) []byte {
	return slices.Concat(filled(a)[:api.SectorSize/2], filled(b)[api.SectorSize/2:])
}

// sectors are so many sectors, which consist of the bytes 1, 2 and so on.
func sectors(n int) (l [][]byte) {
	for i := range n {
		l = append(l, filled(byte(i+1)))
	}
	return l
}

// pending are writes that consist of one byte each: at, byte, at, byte, and so on.
func pending(l ...int) (w []api.Write) {
	for p := range slices.Chunk(l, 2) {
		w = append(w, api.Write{At: p[0], Data: filled(byte(p[1]))})
	}
	return w
}

// equal reports whether disks are equal; nil is as good as an empty slice.
func equal(a, b api.Disk) bool {
	return slices.EqualFunc(a.Sectors, b.Sectors, bytes.Equal) &&
		slices.EqualFunc(a.Pending, b.Pending, func(v, w api.Write) bool { return v.At == w.At && bytes.Equal(v.Data, w.Data) }) &&
		a.Left == b.Left && a.Stopped == b.Stopped
}

// clone copies a disk with all of its memory.
func clone(d api.Disk) api.Disk {
	d.Sectors, d.Pending = slices.Clone(d.Sectors), slices.Clone(d.Pending)
	for i, s := range d.Sectors {
		d.Sectors[i] = slices.Clone(s)
	}
	for i, w := range d.Pending {
		d.Pending[i].Data = slices.Clone(w.Data)
	}
	return d
}

// want checks a disk and the error that came with it.
func want(t *testing.T, name string, d api.Disk, e api.Errno, expected api.Disk, err api.Errno) {
	t.Helper()
	if e != err || !equal(d, expected) {
		t.Errorf("%s: %d sectors, %d pending, left %d, stopped %v, error %d; not %d sectors, %d pending, left %d, stopped %v, error %d (or other bytes)", name,
			len(d.Sectors), len(d.Pending), d.Left, d.Stopped, e,
			len(expected.Sectors), len(expected.Pending), expected.Left, expected.Stopped, err)
	}
}

// must takes a disk that comes without an error.
func must(t *testing.T) func(d api.Disk, e api.Errno) api.Disk {
	return func(d api.Disk, e api.Errno) api.Disk {
		t.Helper()
		if e != api.OK {
			t.Fatalf("error %d", e)
		}
		return d
	}
}

// reads checks what Read returns for the sectors from 0 on.
func reads(t *testing.T, d api.Disk, expected ...[]byte) {
	t.Helper()
	for at, s := range expected {
		if b, e := Read(d, at); e != api.OK || !bytes.Equal(b, s) {
			t.Errorf("sector %d: %v, error %d; not %v", at, b, e, s)
		}
	}
}

// P4.1: New makes sectors of zero bytes, as many as it is told.
func TestNew(t *testing.T) {
	for _, n := range []int{1, 2, 3, 100, 4095, 4096} {
		expected := api.Disk{Left: -1}
		for range n {
			expected.Sectors = append(expected.Sectors, begun())
		}
		d, e := New(n)
		want(t, "New", d, e, expected, api.OK)
		if Check(d) != api.OK {
			t.Errorf("%d sectors: not valid", n)
		}
	}
	for _, n := range []int{0, -1, -4096, 4097, 1 << 20, 1 << 32, 1<<32 + 1, math.MinInt, math.MaxInt} {
		d, e := New(n)
		want(t, "New", d, e, api.Disk{}, api.ErrArg)
	}
}

// validDisks are valid, and reach the limits.
func validDisks() []api.Disk {
	full := slices.Repeat(pending(0, 7, 1, 8), 2048)
	return []api.Disk{
		{Sectors: sectors(1)},
		{Sectors: sectors(1), Left: -1},
		{Sectors: sectors(2), Left: 1},
		{Sectors: sectors(2), Left: 65536},
		{Sectors: sectors(2), Left: 65535, Stopped: true},
		{Sectors: sectors(4096), Left: -1},
		{Sectors: sectors(4096), Pending: pending(0, 9, 4095, 9)},
		{Sectors: sectors(1), Pending: pending(0, 9), Left: -1, Stopped: true},
		{Sectors: sectors(3), Pending: pending(2, 9, 2, 8, 0, 7)},
		{Sectors: sectors(2), Pending: full, Left: -1},
		{Sectors: sectors(2), Pending: full, Left: 65536, Stopped: true},
	}
}

// invalidDisks are invalid in one way each.
func invalidDisks() []api.Disk {
	replaced := func(i int, s []byte) api.Disk {
		l := sectors(3)
		l[i] = s
		return api.Disk{Sectors: l, Left: -1}
	}
	l := []api.Disk{
		{},
		{Left: -1},
		{Sectors: [][]byte{}, Left: -1},
		{Sectors: sectors(4097), Left: -1},
		{Sectors: [][]byte{nil}},
		{Sectors: sectors(1), Left: -2},
		{Sectors: sectors(1), Left: 65537},
		{Sectors: sectors(1), Left: math.MinInt},
		{Sectors: sectors(1), Left: math.MaxInt},
		{Sectors: sectors(1), Left: 1<<32 + 1},
		{Sectors: sectors(2), Pending: slices.Repeat(pending(1, 7), 4097), Left: -1},
		{Pending: pending(0, 1), Left: -1},
	}
	for _, s := range [][]byte{nil, {}, {1}, filled(1)[1:], append(filled(1), 1), make([]byte, 256)} {
		l = append(l, replaced(0, s), replaced(1, s), replaced(2, s))
		for i := range 3 {
			w := pending(0, 5, 1, 6, 2, 7)
			w[i].Data = s
			l = append(l, api.Disk{Sectors: sectors(3), Pending: w, Left: -1})
		}
	}
	for _, at := range []int{-1, 3, 4096, math.MinInt, math.MaxInt, 1 << 32} {
		for i := range 3 {
			w := pending(0, 5, 1, 6, 2, 7)
			w[i].At = at
			l = append(l, api.Disk{Sectors: sectors(3), Pending: w, Left: -1})
		}
	}
	return l
}

// P4.1: Check accepts valid disks, also those that have stopped, and no others.
func TestCheck(t *testing.T) {
	for i, d := range validDisks() {
		if e := Check(d); e != api.OK {
			t.Errorf("valid disk %d: %d", i, e)
		}
	}
	for i, d := range invalidDisks() {
		for _, stopped := range []bool{false, true} {
			d.Stopped = stopped
			if e := Check(d); e != api.ErrDisk {
				t.Errorf("invalid disk %d: %d", i, e)
			}
		}
	}
}

// refusesAll checks that everything but Check, New and Restart returns ErrDisk and zero
// values, also with arguments that lead to other errors for other disks.
func refusesAll(t *testing.T, d api.Disk) {
	t.Helper()
	for _, at := range []int{0, 1, -1, len(d.Sectors), math.MaxInt} {
		if b, e := Read(d, at); e != api.ErrDisk || len(b) != 0 {
			t.Errorf("Read: %d, %v", e, b)
		}
		for _, n := range []int{0, 128, 129} {
			x, e := Write(d, at, make([]byte, n))
			want(t, "Write", x, e, api.Disk{}, api.ErrDisk)
		}
	}
	x, e := Sync(d)
	want(t, "Sync", x, e, api.Disk{}, api.ErrDisk)
	for _, left := range []int{-1, 0, 1, 65536, 65537} {
		x, e := Stop(d, left)
		want(t, "Stop", x, e, api.Disk{}, api.ErrDisk)
	}
}

// P4.2, P4.3: disks that are not valid, or have stopped, are not used.
func TestRefused(t *testing.T) {
	for _, d := range invalidDisks() {
		refusesAll(t, d)
		d.Stopped = true
		refusesAll(t, d)
	}
	for _, d := range validDisks() {
		d.Stopped = true
		refusesAll(t, d)
	}
}

// P4.1: Restart accepts all disks, and drops what was not synced.
func TestRestart(t *testing.T) {
	for _, d := range append(validDisks(), invalidDisks()...) {
		for _, stopped := range []bool{false, true} {
			d.Stopped = stopped
			want(t, "Restart", Restart(d), api.OK, api.Disk{Sectors: d.Sectors, Left: -1}, api.OK)
		}
	}
	if d := Restart(api.Disk{}); d.Sectors != nil || d.Pending != nil || d.Left != -1 || d.Stopped {
		t.Errorf("the zero disk: %v", d)
	}
	d := must(t)(Write(must(t)(New(1)), 0, []byte{5}))
	reads(t, d, begun(5))
	reads(t, Restart(d), begun())
	reads(t, Restart(must(t)(Sync(d))), begun(5))
}

// P4.2: Read returns the last write to a sector, or else the sector.
func TestRead(t *testing.T) {
	d := api.Disk{Sectors: sectors(4), Left: -1}
	reads(t, d, filled(1), filled(2), filled(3), filled(4))
	d.Pending = pending(0, 11, 2, 12, 0, 13, 3, 14, 0, 15, 2, 16, 2, 17)
	for _, left := range []int{-1, 0, 1, 65536} {
		d.Left = left
		reads(t, d, filled(15), filled(2), filled(17), filled(14))
	}
	reads(t, api.Disk{Sectors: sectors(2), Pending: slices.Repeat(pending(0, 7, 1, 8), 2048)}, filled(7), filled(8))
	for _, at := range []int{-1, 4, 5, 128, 4096, math.MinInt, math.MaxInt, 1 << 32} {
		if b, e := Read(d, at); e != api.ErrDisk || len(b) != 0 {
			t.Errorf("sector %d: %v, %d", at, b, e)
		}
	}
	one := must(t)(New(1))
	reads(t, one, begun())
	if b, e := Read(one, 1); e != api.ErrDisk || len(b) != 0 {
		t.Errorf("sector 1 of 1: %v, %d", b, e)
	}
}

// P4.2: Write adds a write at the end, filled up with zero bytes, of any bytes up to a sector.
func TestWrite(t *testing.T) {
	for n := range api.SectorSize + 1 {
		for at := range 3 {
			d := api.Disk{Sectors: sectors(3), Pending: pending(0, 8, 1, 9), Left: n - 1}
			b := filled(200)[:n]
			expected := d
			expected.Pending = append(pending(0, 8, 1, 9), api.Write{At: at, Data: begun(slices.Clone(b)...)})
			x, e := Write(d, at, b)
			want(t, "Write", x, e, expected, api.OK)
		}
	}
	d := must(t)(New(1))
	reads(t, must(t)(Write(d, 0, nil)), begun())
	reads(t, must(t)(Write(must(t)(Write(d, 0, filled(1))), 0, []byte{2})), begun(2))
	last := must(t)(New(4096))
	if b, e := Read(must(t)(Write(last, 4095, []byte{1, 2})), 4095); e != api.OK || !bytes.Equal(b, begun(1, 2)) {
		t.Errorf("sector 4095: %v, %d", b, e)
	}
}

// P4.2: the errors of Write, and their order.
func TestWriteErrors(t *testing.T) {
	d := api.Disk{Sectors: sectors(2), Left: -1}
	full := api.Disk{Sectors: sectors(2), Pending: slices.Repeat(pending(0, 7, 1, 8), 2048), Left: -1}
	almost := full
	almost.Pending = full.Pending[:4095]
	for _, c := range []struct {
		d  api.Disk
		at int
		n  int
		e  api.Errno
	}{
		{d, 0, 129, api.ErrArg}, {d, 1, 256, api.ErrArg}, {d, 0, 1 << 16, api.ErrArg},
		{d, -1, 1, api.ErrDisk}, {d, 2, 1, api.ErrDisk}, {d, math.MinInt, 0, api.ErrDisk}, {d, math.MaxInt, 0, api.ErrDisk},
		{d, 2, 129, api.ErrDisk}, {full, 2, 129, api.ErrDisk}, {full, -1, 0, api.ErrDisk},
		{full, 0, 129, api.ErrArg}, {full, 0, 128, api.ErrLimit}, {full, 1, 0, api.ErrLimit},
		{almost, 0, 129, api.ErrArg},
	} {
		x, e := Write(c.d, c.at, make([]byte, c.n))
		want(t, "Write", x, e, api.Disk{}, c.e)
	}
	x := must(t)(Write(almost, 1, []byte{3}))
	if len(x.Pending) != 4096 || Check(x) != api.OK {
		t.Errorf("%d pending", len(x.Pending))
	}
	reads(t, x, filled(7), begun(3))
	x, e := Write(x, 1, nil)
	want(t, "Write", x, e, api.Disk{}, api.ErrLimit)
	x = must(t)(Sync(must(t)(Write(almost, 1, []byte{3}))))
	reads(t, must(t)(Write(x, 0, []byte{4})), begun(4), begun(3))
}

// P4.3: Sync performs all writes, in order, and diminishes Left.
func TestSync(t *testing.T) {
	w := pending(0, 11, 2, 12, 0, 13)
	for left, after := range map[int]int{-1: -1, 3: 0, 4: 1, 100: 97, 65536: 65533} {
		x, e := Sync(api.Disk{Sectors: sectors(3), Pending: w, Left: left})
		want(t, "Sync", x, e, api.Disk{Sectors: [][]byte{filled(13), filled(2), filled(12)}, Left: after}, api.OK)
	}
	for _, left := range []int{-1, 0, 1, 65536} {
		d := api.Disk{Sectors: sectors(3), Left: left}
		x, e := Sync(d)
		want(t, "Sync without writes", x, e, d, api.OK)
	}
	full := slices.Repeat(pending(0, 7, 1, 8), 2048)
	x, e := Sync(api.Disk{Sectors: sectors(3), Pending: full, Left: 4096})
	want(t, "Sync of 4096 writes", x, e, api.Disk{Sectors: [][]byte{filled(7), filled(8), filled(3)}}, api.OK)
	x, e = Sync(api.Disk{Sectors: sectors(3), Pending: full, Left: 4095})
	want(t, "Sync of 4095 writes and a half", x, e, api.Disk{Sectors: [][]byte{filled(7), filled(8), filled(3)}, Stopped: true}, api.ErrDisk)
}

// P4.3: a disk that stops performs Left writes, and the first half of the next one.
func TestSyncStops(t *testing.T) {
	w := pending(0, 11, 1, 12, 0, 13, 2, 14, 0, 15)
	for left, expected := range [][][]byte{
		{torn(11, 1), filled(2), filled(3)},
		{filled(11), torn(12, 2), filled(3)},
		{torn(13, 11), filled(12), filled(3)},
		{filled(13), filled(12), torn(14, 3)},
		{torn(15, 13), filled(12), filled(14)},
	} {
		x, e := Sync(api.Disk{Sectors: sectors(3), Pending: w, Left: left})
		want(t, "Sync", x, e, api.Disk{Sectors: expected, Stopped: true}, api.ErrDisk)
		if Check(x) != api.OK {
			t.Errorf("left %d: not valid", left)
		}
		refusesAll(t, x)
		reads(t, Restart(x), expected...)
	}
	bytesOf := func(first byte) []byte {
		b := make([]byte, api.SectorSize)
		for i := range b {
			b[i] = first + byte(i)
		}
		return b
	}
	before, after := bytesOf(0), bytesOf(100)
	x, e := Sync(api.Disk{Sectors: [][]byte{before}, Pending: []api.Write{{Data: after}}})
	want(t, "Sync", x, e, api.Disk{Sectors: [][]byte{slices.Concat(after[:64], before[64:])}, Stopped: true}, api.ErrDisk)
}

// P4.3: Stop sets Left, whatever it was, and nothing else.
func TestStop(t *testing.T) {
	for _, d := range validDisks() {
		if d.Stopped {
			continue
		}
		for _, left := range []int{0, 1, 2, 4096, 4097, 65535, 65536} {
			expected := d
			expected.Left = left
			x, e := Stop(d, left)
			want(t, "Stop", x, e, expected, api.OK)
		}
		for _, left := range []int{-1, -2, 65537, math.MinInt, math.MaxInt, 1 << 32} {
			x, e := Stop(d, left)
			want(t, "Stop", x, e, api.Disk{}, api.ErrArg)
		}
	}
	d := must(t)(Stop(must(t)(New(2)), 1))
	d = must(t)(Write(must(t)(Write(d, 0, filled(5))), 1, filled(6)))
	x, e := Sync(d)
	want(t, "the chapter's example", x, e, api.Disk{Sectors: [][]byte{filled(5), torn(6, 0)}, Stopped: true}, api.ErrDisk)
	d = must(t)(Stop(d, 2))
	x, e = Sync(d)
	want(t, "stopped later", x, e, api.Disk{Sectors: [][]byte{filled(5), filled(6)}}, api.OK)
	if x, e := Sync(x); e != api.OK || x.Stopped {
		t.Errorf("a disk that performs no more writes has stopped without one: %d", e)
	}
}

// P4.4: whether writes are synced one by one or together makes no difference, if the disk does not stop.
func TestTogether(t *testing.T) {
	r := rand.New(rand.NewSource(1))
	for range 300 {
		n := 1 + r.Intn(5)
		count := r.Intn(20)
		start := api.Disk{Sectors: sectors(n), Left: []int{-1, count, count + 7}[r.Intn(3)]}
		together, single, some := start, start, start
		for i := range count {
			at, b := r.Intn(n), filled(byte(100 + i))[:r.Intn(129)]
			together = must(t)(Write(together, at, b))
			single = must(t)(Sync(must(t)(Write(single, at, b))))
			some = must(t)(Write(some, at, b))
			if r.Intn(3) == 0 {
				some = must(t)(Sync(some))
			}
			for at := range n {
				b, _ := Read(together, at)
				reads(t, api.Disk{Sectors: [][]byte{single.Sectors[at]}}, b)
			}
		}
		x, e := Sync(together)
		want(t, "one by one", single, api.OK, x, e)
		want(t, "some together", must(t)(Sync(some)), api.OK, x, e)
	}
}

// P4.4: a sync that stops keeps what was synced before in the sectors that neither
// the writes that it performs nor the torn one concern, and what it does not perform is lost.
func TestKept(t *testing.T) {
	for left := range 8 {
		d := must(t)(New(10))
		for at := range 10 {
			d = must(t)(Write(d, at, filled(byte(1+at))))
		}
		d = must(t)(Stop(must(t)(Sync(d)), left))
		for at := range 8 {
			d = must(t)(Write(d, at+1, filled(byte(101+at))))
		}
		x, e := Sync(d)
		if e != api.ErrDisk {
			t.Errorf("left %d: %d", left, e)
		}
		x = Restart(x)
		for at := range 10 {
			b, _ := Read(x, at)
			expected := filled(byte(1 + at))
			switch {
			case at >= 1 && at <= left:
				expected = filled(byte(100 + at))
			case at == left+1:
				expected = torn(byte(100+at), byte(1+at))
			}
			if !bytes.Equal(b, expected) {
				t.Errorf("left %d, sector %d: %v", left, at, b)
			}
		}
	}
}

// What has become of a write.
const (
	waiting = iota
	whole
	halved
	lost
)

type logged struct {
	at, state int
	data      [api.SectorSize]byte
}

// A model is a disk in another way: the log of all writes that were ever made.
type model struct {
	sectors int
	log     []logged
	left    int
	stopped bool
}

func (m model) count() (n int) {
	for _, w := range m.log {
		if w.state == waiting {
			n++
		}
	}
	return n
}

// sector returns the bytes that a sector has, each of which comes from the last write that reached it.
func (m model) sector(at int, withWaiting bool) []byte {
	b := make([]byte, api.SectorSize)
	for i := range b {
		for _, w := range m.log {
			if w.at == at && (w.state == whole || w.state == halved && i < 64 || w.state == waiting && withWaiting) {
				b[i] = w.data[i]
			}
		}
	}
	return b
}

func (m model) disk() api.Disk {
	d := api.Disk{Left: m.left, Stopped: m.stopped}
	for at := range m.sectors {
		d.Sectors = append(d.Sectors, m.sector(at, false))
	}
	for _, w := range m.log {
		if w.state == waiting {
			d.Pending = append(d.Pending, api.Write{At: w.at, Data: w.data[:]})
		}
	}
	return d
}

func (m model) write(at int, b []byte) (model, api.Errno) {
	if m.stopped || at < 0 || at >= m.sectors {
		return m, api.ErrDisk
	}
	if len(b) > api.SectorSize {
		return m, api.ErrArg
	}
	w := logged{at: at}
	copy(w.data[:], b)
	m.log = append(slices.Clone(m.log), w)
	return m, api.OK
}

func (m model) sync() (model, api.Errno) {
	if m.stopped {
		return m, api.ErrDisk
	}
	m.log = slices.Clone(m.log)
	for i := range m.log {
		w := &m.log[i]
		switch {
		case w.state != waiting:
		case m.stopped:
			w.state = lost
		case m.left == 0:
			w.state = halved
			m.stopped = true
		default:
			w.state = whole
			m.left = max(m.left-1, -1)
		}
	}
	if m.stopped {
		return m, api.ErrDisk
	}
	return m, api.OK
}

func (m model) stop(left int) (model, api.Errno) {
	if m.stopped {
		return m, api.ErrDisk
	}
	if left < 0 || left > 65536 {
		return m, api.ErrArg
	}
	m.left = left
	return m, api.OK
}

func (m model) restart() model {
	m.log = slices.Clone(m.log)
	for i := range m.log {
		if m.log[i].state == waiting {
			m.log[i].state = lost
		}
	}
	m.left, m.stopped = -1, false
	return m
}

// play performs one step on a disk and on its model, checks that they agree, and
// returns what they are after it; a step that is refused changes nothing.
func play(t *testing.T, d api.Disk, m model, kind, at int, b []byte) (api.Disk, model) {
	t.Helper()
	var x api.Disk
	var e, err api.Errno
	before := m
	switch kind {
	case 0:
		x, e = Write(d, at, b)
		m, err = m.write(at, b)
	case 1:
		x, e = Sync(d)
		m, err = m.sync()
	case 2:
		x, e = Stop(d, at)
		m, err = m.stop(at)
	default:
		x, m = Restart(d), m.restart()
	}
	if err != api.OK && (kind != 1 || before.stopped) {
		want(t, "a step that is refused", x, e, api.Disk{}, err)
		return d, m
	}
	want(t, "a step", x, e, m.disk(), err)
	if Check(x) != api.OK {
		t.Errorf("not valid")
	}
	for at := range m.sectors {
		s, e := Read(x, at)
		if m.stopped && (e != api.ErrDisk || len(s) != 0) || !m.stopped && (e != api.OK || !bytes.Equal(s, m.sector(at, true))) {
			t.Errorf("sector %d: %v, %d", at, s, e)
		}
	}
	return x, m
}

func start(t *testing.T, sectors int) (api.Disk, model) {
	return must(t)(New(sectors)), model{sectors: sectors, left: -1}
}

// P4.2, P4.3, P4.4: all short sequences of steps on a small disk. Every disk is used for
// several steps, which do not disturb one another.
func TestSequences(t *testing.T) {
	var goOn func(d api.Disk, m model, depth int)
	goOn = func(d api.Disk, m model, depth int) {
		if depth == 0 || t.Failed() {
			return
		}
		b := filled(byte(10 * depth))
		for _, step := range [][2]int{{0, 0}, {0, 1}, {1, 0}, {2, 0}, {2, 1}, {2, 2}, {3, 0}} {
			x, y := play(t, d, m, step[0], step[1], b)
			goOn(x, y, depth-1)
		}
	}
	d, m := start(t, 2)
	goOn(d, m, 5)
}

// P4.2, P4.3, P4.4: long sequences of steps.
func TestRandomSequences(t *testing.T) {
	r := rand.New(rand.NewSource(4))
	for range 200 {
		d, m := start(t, 1+r.Intn(6))
		for range 60 {
			kind := []int{0, 0, 0, 0, 0, 1, 1, 2, 3}[r.Intn(9)]
			b := make([]byte, r.Intn(131))
			r.Read(b)
			d, m = play(t, d, m, kind, r.Intn(m.sectors+2)-1, b)
			if kind == 2 && r.Intn(2) == 0 {
				d, m = play(t, d, m, 3, 0, nil)
			}
		}
		if t.Failed() {
			return
		}
	}
}

// FuzzDisk: any steps lead to the same as in the model.
func FuzzDisk(f *testing.F) {
	f.Add([]byte{3, 0, 0, 7, 2, 1, 0, 0, 1, 8, 1, 0, 0, 3, 0, 0})
	f.Add([]byte{1, 0, 0, 129, 0, 0, 128, 0, 255, 3, 1, 0, 0})
	f.Fuzz(func(t *testing.T, l []byte) {
		if len(l) == 0 || len(l) > 300 {
			return
		}
		d, m := start(t, 1+int(l[0]%8))
		for p := range slices.Chunk(l[1:], 3) {
			if len(p) == 3 {
				d, m = play(t, d, m, int(p[0]%4), int(int8(p[1])), filled(p[2])[:int(p[2])%129])
			}
		}
	})
}

// R2, R6: no call changes its arguments, also behind their ends, or what another call has
// returned, and equal calls return equal results.
func TestPure(t *testing.T) {
	memory := make([]api.Write, 4, 10)
	copy(memory, pending(0, 5, 1, 6, 0, 7, 2, 8))
	behind := memory[:10]
	behind[4] = api.Write{At: 1, Data: filled(77)}
	spare := append(make([]byte, 0, 500), 1, 2, 3)
	for left := -1; left < 6; left++ {
		d := api.Disk{Sectors: sectors(3), Pending: memory, Left: left}
		kept := clone(d)
		for range 2 {
			a, _ := Write(d, 0, spare)
			b, _ := Write(d, 1, filled(9))
			c, _ := Write(a, 2, filled(10))
			s, _ := Sync(c)
			u, _ := Sync(d)
			v, _ := Stop(d, 5)
			w := Restart(d)
			got, _ := Read(b, 1)
			results := []api.Disk{a, b, c, s, u, v, w}
			var copies []api.Disk
			for _, x := range results {
				copies = append(copies, clone(x))
			}
			for _, x := range results {
				Check(x)
				y, _ := Write(x, 1, filled(99))
				Write(x, 1, filled(98))
				Sync(y)
				Sync(x)
				Stop(x, 0)
				Restart(x)
				Read(x, 1)
			}
			for i, x := range results {
				if !reflect.DeepEqual(x, copies[i]) {
					t.Errorf("left %d: result %d has changed", left, i)
				}
			}
			if !bytes.Equal(got, filled(9)) {
				t.Errorf("left %d: what was read has changed", left)
			}
			again, _ := Sync(c)
			if !equal(again, s) || !equal(d, kept) || behind[4].At != 1 || !bytes.Equal(behind[4].Data, filled(77)) || behind[5].Data != nil {
				t.Errorf("left %d: the disk, or what is behind it, has changed", left)
			}
		}
	}
	if !bytes.Equal(spare, []byte{1, 2, 3}) || !bytes.Equal(spare[:500][3:], make([]byte, 497)) {
		t.Error("the bytes, or what is behind them, have changed")
	}
}

// R3: an empty slice is as good as nil.
func TestEmpty(t *testing.T) {
	d := api.Disk{Sectors: sectors(2), Left: -1}
	empty := d
	empty.Pending = []api.Write{}
	for _, x := range []api.Disk{d, empty} {
		if Check(x) != api.OK {
			t.Error("not valid")
		}
		y, e := Sync(x)
		want(t, "Sync", y, e, d, api.OK)
		for _, b := range [][]byte{nil, {}} {
			reads(t, must(t)(Write(x, 0, b)), begun(), filled(2))
		}
	}
}
