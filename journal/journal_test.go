package journal

import (
	"bytes"
	"encoding/binary"
	"hash/crc32"
	"math"
	"math/rand"
	"reflect"
	"slices"
	"strings"
	"testing"

	"signatory/api"
	"signatory/disk"
)

// must takes what comes without an error.
func must[T any](t *testing.T) func(x T, e api.Errno) T {
	return func(x T, e api.Errno) T {
		t.Helper()
		if e != api.OK {
			t.Fatalf("error %d", e)
		}
		return x
	}
}

// fresh is a new disk.
func fresh(t *testing.T, sectors int) api.Disk {
	t.Helper()
	return must[api.Disk](t)(disk.New(sectors))
}

// of makes records of strings.
func of(l ...string) (records [][]byte) {
	for _, s := range l {
		records = append(records, []byte(s))
	}
	return records
}

// appended is a journal with further records.
func appended(t *testing.T, j api.Journal, records ...[]byte) api.Journal {
	t.Helper()
	for _, b := range records {
		j = must[api.Journal](t)(Append(j, b))
	}
	return j
}

// stored is a disk to which the lists of records are synced, each in a generation of its own.
func stored(t *testing.T, d api.Disk, lists ...[][]byte) api.Disk {
	t.Helper()
	for _, l := range lists {
		j := appended(t, must[api.Journal](t)(Open(d)), l...)
		_, y, e := Sync(j, d)
		d = must[api.Disk](t)(y, e)
	}
	return d
}

// cloneDisk copies a disk with all of its memory.
func cloneDisk(d api.Disk) api.Disk {
	d.Sectors, d.Pending = cloneAll(d.Sectors), slices.Clone(d.Pending)
	for i, w := range d.Pending {
		d.Pending[i].Data = slices.Clone(w.Data)
	}
	return d
}

// cloneAll copies byte strings with all of their memory.
func cloneAll(l [][]byte) [][]byte {
	l = slices.Clone(l)
	for i, b := range l {
		l[i] = slices.Clone(b)
	}
	return l
}

// same reports whether lists of byte strings are equal; nil is as good as an empty slice.
func same(a, b [][]byte) bool { return slices.EqualFunc(a, b, bytes.Equal) }

// sameDisk reports whether disks without pending writes are equal.
func sameDisk(a, b api.Disk) bool {
	return same(a.Sectors, b.Sectors) && len(a.Pending) == 0 && len(b.Pending) == 0 && a.Left == b.Left && a.Stopped == b.Stopped
}

// reads checks what Open returns.
func reads(t *testing.T, name string, d api.Disk, records [][]byte) {
	t.Helper()
	j, e := Open(d)
	if e != api.OK || !same(j.Records, records) || j.Synced != len(records) || j.Many != len(d.Sectors) {
		t.Errorf("%s: %q, %d synced, %d sectors, error %d; not %q", name, j.Records, j.Synced, j.Many, e, records)
	}
}

// fails checks that Sync returns an error, and zero values.
func fails(t *testing.T, name string, j api.Journal, d api.Disk, err api.Errno) {
	t.Helper()
	x, y, e := Sync(j, d)
	if e != err || !reflect.ValueOf(x).IsZero() || !reflect.ValueOf(y).IsZero() {
		t.Errorf("%s: %v, %d sectors, error %d; not %d", name, x, len(y.Sectors), e, err)
	}
}

// forged is a sector with the given contents and the right checksum.
func forged(generation uint32, number int, kind, count byte, data string) []byte {
	s := make([]byte, 128)
	binary.BigEndian.PutUint32(s, generation)
	binary.BigEndian.PutUint32(s[124:], generation)
	binary.BigEndian.PutUint16(s[8:], uint16(number))
	s[10], s[11] = kind, count
	copy(s[12:124], data)
	return sealed(s)
}

// sealed is a sector whose checksum is made right.
func sealed(s []byte) []byte {
	binary.BigEndian.PutUint32(s[4:], crc32.ChecksumIEEE(s[8:124]))
	return s
}

// changed is a sector in which a byte is changed, and whose checksum is right.
func changed(s []byte, at int, b byte) []byte {
	s = slices.Clone(s)
	s[at] = b
	return sealed(s)
}

// full is a string of 112 bytes.
func full(s string) string { return strings.Repeat(s, 112) }

// onDisk is a disk of sectors.
func onDisk(sectors ...[]byte) api.Disk { return api.Disk{Sectors: sectors, Left: -1} }

// modelForm is the form of the records in sectors from a number on, by the table of the chapter.
func modelForm(records [][]byte, at int, generation uint32) (sectors [][]byte) {
	for _, b := range records {
		kind := byte(1)
		for len(b) > 112 {
			sectors = append(sectors, forged(generation, at+len(sectors), kind, 112, string(b[:112])))
			b, kind = b[112:], 0
		}
		sectors = append(sectors, forged(generation, at+len(sectors), kind+2, byte(len(b)), string(b)))
	}
	return sectors
}

// modelGood says whether a sector is good for a number, by the definition.
func modelGood(s []byte, k int) bool {
	n := int(s[11])
	return bytes.Equal(s[:4], s[124:]) && !bytes.Equal(s[:4], make([]byte, 4)) &&
		binary.BigEndian.Uint32(s[4:]) == crc32.ChecksumIEEE(s[8:124]) &&
		int(binary.BigEndian.Uint16(s[8:])) == k && s[10] <= 3 && n <= 112 &&
		len(bytes.Trim(s[12+n:124], "\x00")) == 0 &&
		(s[10] >= 2 || n == 112) && (s[10]%2 == 1 || n >= 1)
}

// modelRecords are the records in sectors, and the number of sectors before the end of the journal.
func modelRecords(sectors [][]byte) (records [][]byte, end int) {
	for {
		k, b := end, []byte(nil)
		for {
			if k == len(sectors) || !modelGood(sectors[k], k) || (sectors[k][10]%2 == 1) != (k == end) {
				return records, end
			}
			if k > end && !bytes.Equal(sectors[k][:4], sectors[end][:4]) {
				return records, end
			}
			if k == end && end > 0 && bytes.Compare(sectors[k][:4], sectors[end-1][:4]) < 0 {
				return records, end
			}
			b = append(b, sectors[k][12:12+sectors[k][11]]...)
			if k++; sectors[k-1][10] >= 2 {
				break
			}
		}
		records, end = append(records, b), k
	}
}

// P5.1, P5.3: the checksum is that of the chapter.
func TestChecksum(t *testing.T) {
	if n := checksum([]byte("123456789")); n != 3421780262 {
		t.Errorf("123456789: %d", n)
	}
	r := rand.New(rand.NewSource(1))
	for n := range 300 {
		b := make([]byte, n)
		r.Read(b)
		if checksum(b) != crc32.ChecksumIEEE(b) {
			t.Errorf("%v: %d", b, checksum(b))
		}
	}
}

// P5.1, P5.3: whoever needs no more records, or pieces of one, gets no more.
func TestIterators(t *testing.T) {
	d := stored(t, fresh(t, 9), of(full("a")+"b", "c", "d"))
	n := 0
	for b := range recordsOn(d.Sectors) {
		if n++; n == 2 && string(b) == "c" {
			break
		}
	}
	for p := range piecesOf(make([]byte, 500)) {
		if n++; n == 4 && len(p.data) == 112 && !p.begins && !p.ends {
			break
		}
	}
	if n != 4 {
		t.Error(n)
	}
}

// P5.1: a new disk has no records.
func TestOpenNew(t *testing.T) {
	for _, n := range []int{1, 2, 7, 4096} {
		reads(t, "new", fresh(t, n), nil)
	}
}

// P5.1: Open refuses disks that are not valid, have stopped, or have pending writes, in this order.
func TestOpenErrors(t *testing.T) {
	d := stored(t, fresh(t, 2), of("a"))
	pending := []api.Write{{At: 1, Data: make([]byte, 128)}}
	for i, x := range []struct {
		d api.Disk
		e api.Errno
	}{
		{api.Disk{}, api.ErrDisk},
		{api.Disk{Sectors: d.Sectors, Left: -2}, api.ErrDisk},
		{api.Disk{Sectors: [][]byte{{1}}}, api.ErrDisk},
		{api.Disk{Sectors: make([][]byte, 4097)}, api.ErrDisk},
		{api.Disk{Sectors: d.Sectors, Left: 70000, Pending: pending}, api.ErrDisk},
		{api.Disk{Sectors: d.Sectors, Stopped: true}, api.ErrDisk},
		{api.Disk{Sectors: d.Sectors, Stopped: true, Pending: pending}, api.ErrDisk},
		{api.Disk{Sectors: d.Sectors, Pending: pending}, api.ErrArg},
		{api.Disk{Sectors: d.Sectors, Pending: pending, Left: -1}, api.ErrArg},
	} {
		if j, e := Open(x.d); e != x.e || !reflect.ValueOf(j).IsZero() {
			t.Errorf("%d: %v, error %d; not %d", i, j, e, x.e)
		}
	}
	for _, left := range []int{-1, 0, 1, 65536} {
		d.Left = left
		reads(t, "left", d, of("a"))
	}
}

// P5.1: a sector is good only if each of its parts is.
func TestOpenGood(t *testing.T) {
	const g = 0x01020304
	unsealed := func(s []byte, at int) []byte { s[at] ^= 1; return s }
	for i, x := range []struct {
		s []byte
		n int
	}{
		{forged(g, 0, 3, 1, "a"), 1},
		{forged(1, 0, 3, 0, ""), 1},
		{forged(math.MaxUint32, 0, 3, 112, full("a")), 1},
		{forged(1<<24, 0, 3, 111, full("a")[1:]), 1},
		{forged(g, 0, 3, 5, ""), 1},
		{forged(0, 0, 3, 1, "a"), 0},
		{unsealed(forged(g, 0, 3, 1, "a"), 3), 0},
		{unsealed(forged(g, 0, 3, 1, "a"), 0), 0},
		{unsealed(forged(g, 0, 3, 1, "a"), 127), 0},
		{unsealed(forged(1, 0, 3, 1, "a"), 127), 0},
		{unsealed(forged(g, 0, 3, 1, "a"), 124), 0},
		{unsealed(forged(g, 0, 3, 1, "a"), 4), 0},
		{unsealed(forged(g, 0, 3, 1, "a"), 7), 0},
		{unsealed(forged(g, 0, 3, 1, "a"), 12), 0},
		{forged(g, 1, 3, 1, "a"), 0},
		{forged(g, 256, 3, 1, "a"), 0},
		{forged(g, 65535, 3, 1, "a"), 0},
		{forged(g, 0, 7, 1, "a"), 0},
		{forged(g, 0, 131, 1, "a"), 0},
		{forged(g, 0, 3, 113, full("a")), 0},
		{forged(g, 0, 3, 255, full("a")), 0},
		{forged(g, 0, 3, 1, "ab"), 0},
		{forged(g, 0, 3, 0, "a"), 0},
		{changed(forged(g, 0, 3, 1, "a"), 123, 1), 0},
		{forged(g, 0, 2, 1, "a"), 0},
		{forged(g, 0, 1, 112, full("a")), 0},
		{forged(g, 0, 0, 112, full("a")), 0},
		{make([]byte, 128), 0},
		{bytes.Repeat([]byte{255}, 128), 0},
	} {
		j, e := Open(onDisk(x.s))
		if e != api.OK || len(j.Records) != x.n || j.Synced != x.n || j.Many != 1 {
			t.Errorf("%d: %q, %d synced, error %d", i, j.Records, j.Synced, e)
		}
		if n := len(j.Records); n == 1 && !bytes.Equal(j.Records[0], x.s[12:12+x.s[11]]) {
			t.Errorf("%d: %q", i, j.Records)
		}
	}
}

// P5.1: a record goes on as long as sectors continue it, and only if one of them ends it.
func TestOpenContinues(t *testing.T) {
	first, a := forged(5, 0, 1, 112, full("a")), full("a")
	for i, x := range []struct {
		sectors [][]byte
		records [][]byte
	}{
		{[][]byte{first}, nil},
		{[][]byte{first, forged(5, 1, 2, 1, "b")}, of(a + "b")},
		{[][]byte{first, forged(5, 1, 2, 112, full("b"))}, of(a + full("b"))},
		{[][]byte{first, forged(5, 1, 0, 112, a)}, nil},
		{[][]byte{first, forged(5, 1, 0, 112, a), forged(5, 2, 2, 3, "abc")}, of(a + a + "abc")},
		{[][]byte{first, forged(5, 1, 0, 112, a), forged(5, 2, 0, 112, a)}, nil},
		{[][]byte{first, forged(5, 1, 2, 0, "")}, nil},
		{[][]byte{first, forged(5, 1, 0, 111, a[1:]), forged(5, 2, 2, 3, "abc")}, nil},
		{[][]byte{forged(5, 0, 1, 111, a[1:]), forged(5, 1, 2, 1, "b")}, nil},
		{[][]byte{first, forged(6, 1, 2, 1, "b")}, nil},
		{[][]byte{first, forged(4, 1, 2, 1, "b")}, nil},
		{[][]byte{first, forged(5, 1, 0, 112, a), forged(6, 2, 2, 1, "b")}, nil},
		{[][]byte{first, forged(5, 2, 2, 1, "b")}, nil},
		{[][]byte{first, forged(5, 0, 2, 1, "b")}, nil},
		{[][]byte{first, forged(5, 1, 3, 1, "b")}, nil},
		{[][]byte{first, forged(5, 1, 1, 112, full("b")), forged(5, 2, 2, 1, "c")}, nil},
		{[][]byte{first, forged(5, 1, 0, 112, a), forged(5, 2, 3, 1, "b")}, nil},
		{[][]byte{first, changed(forged(5, 1, 2, 1, "b"), 20, 1)}, nil},
		{[][]byte{first, make([]byte, 128), forged(5, 2, 2, 1, "b")}, nil},
		{[][]byte{forged(5, 0, 3, 1, "x"), forged(5, 1, 2, 1, "b")}, of("x")},
		{[][]byte{forged(5, 0, 3, 1, "x"), forged(5, 1, 1, 112, a)}, of("x")},
		{[][]byte{forged(5, 0, 0, 112, a), forged(5, 1, 3, 1, "b")}, nil},
	} {
		reads(t, "record "+string(rune('A'+i)), onDisk(x.sectors...), x.records)
	}
}

// P5.1: a record follows another one unless its generation is less; what follows the end is not read.
func TestOpenFollows(t *testing.T) {
	a := full("a")
	for i, x := range []struct {
		sectors [][]byte
		records [][]byte
	}{
		{[][]byte{forged(5, 0, 3, 1, "x"), forged(5, 1, 3, 1, "y")}, of("x", "y")},
		{[][]byte{forged(5, 0, 3, 1, "x"), forged(6, 1, 3, 1, "y")}, of("x", "y")},
		{[][]byte{forged(5, 0, 3, 1, "x"), forged(1<<31, 1, 3, 1, "y")}, of("x", "y")},
		{[][]byte{forged(1<<31, 0, 3, 1, "x"), forged(5, 1, 3, 1, "y")}, of("x")},
		{[][]byte{forged(5, 0, 3, 1, "x"), forged(4, 1, 3, 1, "y")}, of("x")},
		{[][]byte{forged(5, 0, 3, 1, "x"), forged(4, 1, 3, 1, "y"), forged(5, 2, 3, 1, "z")}, of("x")},
		{[][]byte{forged(5, 0, 3, 1, "x"), forged(7, 1, 3, 1, "y"), forged(6, 2, 3, 1, "z")}, of("x", "y")},
		{[][]byte{forged(5, 0, 3, 1, "x"), forged(4, 1, 1, 112, a), forged(4, 2, 2, 1, "z")}, of("x")},
		{[][]byte{forged(5, 0, 1, 112, a), forged(5, 1, 2, 1, "b"), forged(5, 2, 3, 0, "")}, of(a+"b", "")},
		{[][]byte{forged(5, 0, 1, 112, a), forged(5, 1, 2, 1, "b"), forged(4, 2, 3, 0, "")}, of(a + "b")},
		{[][]byte{forged(5, 0, 3, 0, ""), forged(5, 1, 3, 0, ""), forged(5, 2, 3, 0, "")}, of("", "", "")},
		{[][]byte{make([]byte, 128), forged(5, 1, 3, 1, "y")}, nil},
		{[][]byte{forged(5, 1, 3, 1, "x"), forged(5, 0, 3, 1, "y")}, nil},
	} {
		reads(t, "records "+string(rune('A'+i)), onDisk(x.sectors...), x.records)
	}
}

// P5.1: records are found on disks of good, spoilt and stale sectors as the definition says.
func TestOpenModel(t *testing.T) {
	r := rand.New(rand.NewSource(2))
	counts := make([]int, 9)
	for range 60000 {
		var sectors [][]byte
		g := uint32(1 + r.Intn(2))
		for k := range 1 + r.Intn(8) {
			kind, n := byte(r.Intn(4)), byte(112)
			if k > 0 && r.Intn(8) > 0 {
				// Such that most sectors follow the one before.
				kind = sectors[k-1][10]/2%2 + byte(r.Intn(2))*2
			}
			if kind >= 2 && r.Intn(4) > 0 {
				n = byte(r.Intn(3))
			}
			if r.Intn(12) == 0 {
				g += uint32(r.Intn(3)) - 1
			}
			s := forged(g, k, kind, n, strings.Repeat(string(rune('a'+k)), int(n)))
			if r.Intn(20) == 0 {
				s[r.Intn(128)] ^= byte(r.Intn(4))
			}
			if r.Intn(20) == 0 {
				s = changed(s, 8+r.Intn(116), byte(r.Intn(5)))
			}
			sectors = append(sectors, s)
		}
		records, _ := modelRecords(sectors)
		counts[len(records)]++
		reads(t, "model", onDisk(sectors...), records)
	}
	if slices.Contains(counts, 0) {
		t.Error("the disks have too few different numbers of records:", counts)
	}
}

// P5.2: Check, and Room with it.
func TestCheck(t *testing.T) {
	many := slices.Repeat([][]byte{nil}, 4096)
	for i, x := range []struct {
		j    api.Journal
		room int
		e    api.Errno
	}{
		{api.Journal{}, 0, api.ErrArg},
		{api.Journal{Many: 1}, 112, api.OK},
		{api.Journal{Many: 2}, 224, api.OK},
		{api.Journal{Many: 4096}, 458752, api.OK},
		{api.Journal{Many: 4097}, 0, api.ErrArg},
		{api.Journal{Many: -1}, 0, api.ErrArg},
		{api.Journal{Many: math.MaxInt}, 0, api.ErrArg},
		{api.Journal{Many: math.MinInt}, 0, api.ErrArg},
		{api.Journal{Many: 1<<32 + 1}, 0, api.ErrArg},
		{api.Journal{Many: 1, Synced: 1}, 0, api.ErrArg},
		{api.Journal{Many: 1, Synced: -1}, 0, api.ErrArg},
		{api.Journal{Many: 1, Synced: math.MinInt}, 0, api.ErrArg},
		{api.Journal{Many: 1, Synced: math.MaxInt}, 0, api.ErrArg},
		{api.Journal{Many: 3, Records: of("", "a"), Synced: 0}, 112, api.OK},
		{api.Journal{Many: 3, Records: of("", "a"), Synced: 1}, 112, api.OK},
		{api.Journal{Many: 3, Records: of("", "a"), Synced: 2}, 112, api.OK},
		{api.Journal{Many: 3, Records: of("", "a"), Synced: 3}, 0, api.ErrArg},
		{api.Journal{Many: 2, Records: of("", "a"), Synced: 2}, 0, api.OK},
		{api.Journal{Many: 1, Records: of("", "a"), Synced: 1}, 0, api.ErrArg},
		{api.Journal{Many: 1, Records: of(full("a"))}, 0, api.OK},
		{api.Journal{Many: 1, Records: of(full("a") + "a")}, 0, api.ErrArg},
		{api.Journal{Many: 2, Records: of(full("a") + "a")}, 0, api.OK},
		{api.Journal{Many: 2, Records: of(full("a") + full("a"))}, 0, api.OK},
		{api.Journal{Many: 2, Records: of(full("a") + full("a") + "a")}, 0, api.ErrArg},
		{api.Journal{Many: 4, Records: of(full("a")+full("a")+"a", "b")}, 0, api.OK},
		{api.Journal{Many: 3, Records: of(full("a")+full("a")+"a", "b")}, 0, api.ErrArg},
		{api.Journal{Many: 4096, Records: many}, 0, api.OK},
		{api.Journal{Many: 4096, Records: many[1:]}, 112, api.OK},
		{api.Journal{Many: 4095, Records: many}, 0, api.ErrArg},
		{api.Journal{Many: 4096, Records: append(slices.Clone(many), nil)}, 0, api.ErrArg},
		{api.Journal{Many: 4096, Records: [][]byte{make([]byte, 4096*112)}}, 0, api.OK},
		{api.Journal{Many: 4096, Records: [][]byte{make([]byte, 4096*112+1)}}, 0, api.ErrArg},
		{api.Journal{Many: 4096, Records: [][]byte{make([]byte, 4095*112)}}, 112, api.OK},
	} {
		if e, n := Check(x.j), Room(x.j); e != x.e || n != x.room {
			t.Errorf("%d: error %d, room %d; not %d, %d", i, e, n, x.e, x.room)
		}
		if y, e := Append(x.j, nil); x.e != api.OK && (e != x.e || !reflect.ValueOf(y).IsZero()) {
			t.Errorf("%d: Append: %v, error %d", i, y, e)
		}
	}
}

// P5.2: Append adds a record that is not synced, if there is room for it.
func TestAppend(t *testing.T) {
	for _, many := range []int{1, 2, 3, 4, 4096} {
		for _, before := range [][][]byte{nil, of(""), of("a", "b"), of(full("a") + "b"), of(full("a"), "")} {
			j := api.Journal{Many: many, Records: before}
			if Check(j) != api.OK {
				continue
			}
			j.Synced = len(before) / 2
			room := Room(j)
			for _, n := range []int{0, 1, 111, 112, 113, 223, 224, 225, room - 1, room, room + 1, room + 112} {
				if n < 0 {
					continue
				}
				b := bytes.Repeat([]byte{'x'}, n)
				x, e := Append(j, b)
				if n > room || room == 0 {
					if e != api.ErrLimit || !reflect.ValueOf(x).IsZero() {
						t.Errorf("%d of %d bytes: error %d, %v", n, room, e, x)
					}
					continue
				}
				if e != api.OK || x.Many != many || x.Synced != j.Synced || !same(x.Records, append(cloneAll(before), b)) {
					t.Errorf("%d of %d bytes: error %d, %v", n, room, e, x)
				}
				if left := room - 112*max(1, (n+111)/112); Room(x) != left {
					t.Errorf("%d of %d bytes: room %d, not %d", n, room, Room(x), left)
				}
			}
		}
	}
}

// P5.2: two journals that are made of one do not change each other, nor the record that is appended.
func TestAppendTwice(t *testing.T) {
	j := api.Journal{Many: 9}
	j.Records = append(make([][]byte, 0, 8), of("a", "b")...)
	x, y := appended(t, j, []byte("x")), appended(t, j, []byte("y"))
	z := appended(t, x, []byte("z"))
	if !same(j.Records, of("a", "b")) || !same(x.Records, of("a", "b", "x")) || !same(y.Records, of("a", "b", "y")) || !same(z.Records, of("a", "b", "x", "z")) {
		t.Errorf("%q, %q, %q, %q", j.Records, x.Records, y.Records, z.Records)
	}
}

// P5.3: sectors have the form of the table.
func TestSyncForm(t *testing.T) {
	first := of("ab", full("x")+"y", "", full("z"), full("u")+full("v"), "\x00\x00")
	second := of(full("1")+full("2")+full("3")+"4", "")
	d := fresh(t, 20)
	j := appended(t, must[api.Journal](t)(Open(d)), first...)
	j, d, e := Sync(j, d)
	expected := onDisk(append(modelForm(first, 0, 1), fresh(t, 12).Sectors...)...)
	if e != api.OK || !same(j.Records, first) || j.Synced != 6 || j.Many != 20 || !sameDisk(d, expected) {
		t.Fatalf("error %d, %v", e, d)
	}
	j = appended(t, j, second...)
	j, d, e = Sync(j, d)
	expected = onDisk(slices.Concat(modelForm(first, 0, 1), modelForm(second, 8, 2), fresh(t, 7).Sectors)...)
	if e != api.OK || !same(j.Records, append(first, second...)) || j.Synced != 8 || j.Many != 20 || !sameDisk(d, expected) {
		t.Fatalf("error %d, %v", e, d)
	}
	if s := d.Sectors[0]; !bytes.Equal(s[:14], []byte{0, 0, 0, 1, s[4], s[5], s[6], s[7], 0, 0, 3, 2, 'a', 'b'}) || s[14] != 0 || s[123] != 0 || s[127] != 1 {
		t.Errorf("%v", s)
	}
}

// P5.3: sectors have numbers of two bytes; the whole disk can be used.
func TestSyncLarge(t *testing.T) {
	long := bytes.Repeat([]byte("0123456789abcdef"), 4094*7)
	d := stored(t, fresh(t, 4096), [][]byte{long[:300*112-5]}, [][]byte{[]byte("a"), long[300*112-5 : 4093*112]}, of("b"))
	records := [][]byte{long[:300*112-5], []byte("a"), long[300*112-5 : 4093*112], []byte("b")}
	reads(t, "large", d, records)
	expected := slices.Concat(modelForm(records[:1], 0, 1), modelForm(records[1:3], 300, 2), modelForm(records[3:], 4095, 3))
	if !same(d.Sectors, expected) {
		t.Error("other sectors")
	}
	j := must[api.Journal](t)(Open(d))
	if x, y, e := Sync(j, d); e != api.OK || !sameDisk(y, d) || x.Synced != 4 || Room(x) != 0 {
		t.Error(e)
	}
}

// P5.3: the generation is greater than all numbers at the places of generations, also of bad sectors.
func TestSyncGeneration(t *testing.T) {
	for _, x := range []struct{ sector, at int }{{0, 0}, {1, 0}, {1, 124}, {3, 0}, {3, 124}, {2, 124}} {
		for _, g := range []uint32{1, 2, 0x00FF00FF, 1 << 24, 1 << 31, math.MaxUint32 - 1, math.MaxUint32} {
			d := cloneDisk(fresh(t, 4))
			if x.sector > 0 {
				d = cloneDisk(stored(t, d, of("a")))
			}
			binary.BigEndian.PutUint32(d.Sectors[x.sector][x.at:], g)
			j := must[api.Journal](t)(Open(d))
			if g == math.MaxUint32 {
				fails(t, "nothing to write", j, d, api.ErrLog)
				fails(t, "too great", appended(t, j, []byte("b")), d, api.ErrLog)
				continue
			}
			n := len(j.Records)
			k, y, e := Sync(appended(t, j, []byte("b"), []byte("c")), d)
			if e != api.OK || k.Synced != n+2 || binary.BigEndian.Uint32(y.Sectors[n][:4]) != g+1 && g > 1 || !same(y.Sectors[n:n+2], modelForm(of("b", "c"), n, max(g, 1)+1)) {
				t.Errorf("generation %d in sector %d: error %d, %v", g, x.sector, e, y)
			}
		}
	}
}

// P5.3: errors come in the order of the chapter.
func TestSyncErrors(t *testing.T) {
	d := stored(t, fresh(t, 3), of("a", "b"))
	j := must[api.Journal](t)(Open(d))
	longer := appended(t, j, []byte("c"))
	pending := must[api.Disk](t)(disk.Write(d, 2, nil))
	stopped, both, invalid := d, pending, pending
	stopped.Stopped, both.Stopped, invalid.Left = true, true, -2
	last := cloneDisk(d)
	copy(last.Sectors[2][124:], "\xff\xff\xff\xff")
	wrong := api.Journal{Many: 3, Records: of("a", "b"), Synced: 3}
	four := api.Journal{Many: 4, Records: of("a", "b"), Synced: 2}
	for i, x := range []struct {
		j api.Journal
		d api.Disk
		e api.Errno
	}{
		{api.Journal{}, api.Disk{}, api.ErrArg},
		{api.Journal{}, stopped, api.ErrArg},
		{wrong, d, api.ErrArg},
		{wrong, stopped, api.ErrArg},
		{longer, api.Disk{}, api.ErrDisk},
		{longer, invalid, api.ErrDisk},
		{longer, stopped, api.ErrDisk},
		{j, stopped, api.ErrDisk},
		{longer, both, api.ErrDisk},
		{four, both, api.ErrDisk},
		{four, invalid, api.ErrDisk},
		{longer, pending, api.ErrArg},
		{j, pending, api.ErrArg},
		{four, d, api.ErrArg},
		{four, pending, api.ErrArg},
		{api.Journal{Many: 4, Records: of("x")}, d, api.ErrArg},
		{api.Journal{Many: 2, Records: of("a", "b"), Synced: 2}, d, api.ErrArg},
		{api.Journal{Many: 3}, pending, api.ErrArg},
		{api.Journal{Many: 3}, d, api.ErrLog},
		{api.Journal{Many: 3, Records: of("a", "b")}, d, api.ErrLog},
		{api.Journal{Many: 3, Records: of("a", "b"), Synced: 1}, d, api.ErrLog},
		{api.Journal{Many: 3, Records: of("a", "b", "c"), Synced: 3}, d, api.ErrLog},
		{api.Journal{Many: 3, Records: of("a", "c"), Synced: 2}, d, api.ErrLog},
		{api.Journal{Many: 3, Records: of("b", "a"), Synced: 2}, d, api.ErrLog},
		{api.Journal{Many: 3, Records: of("", "b"), Synced: 2}, d, api.ErrLog},
		{api.Journal{Many: 3, Records: of("a", "bb"), Synced: 2}, d, api.ErrLog},
		{api.Journal{Many: 3, Records: of("a"), Synced: 1}, d, api.ErrLog},
		{j, last, api.ErrLog},
		{longer, last, api.ErrLog},
		{four, last, api.ErrArg},
		{j, fresh(t, 3), api.ErrLog},
	} {
		fails(t, "call "+string(rune('A'+i)), x.j, x.d, x.e)
	}
}

// P5.3: without further records, the journal and the disk are returned, whatever the disk would do.
func TestSyncNothing(t *testing.T) {
	for _, d := range []api.Disk{fresh(t, 1), stored(t, fresh(t, 3), of("a", "b")), stored(t, fresh(t, 1), of("a"))} {
		for _, left := range []int{-1, 0, 1, 7} {
			d.Left = left
			j := must[api.Journal](t)(Open(d))
			x, y, e := Sync(j, d)
			if e != api.OK || !same(x.Records, j.Records) || x.Synced != j.Synced || x.Many != j.Many || !sameDisk(y, d) {
				t.Errorf("error %d, %v", e, y)
			}
		}
	}
}

// P5.3: a disk that stops is returned as it is then, with a zero journal.
func TestSyncStops(t *testing.T) {
	before, after := of("a"), of("b", full("c")+"d", "e")
	d := stored(t, fresh(t, 6), before)
	j := appended(t, must[api.Journal](t)(Open(d)), after...)
	form := modelForm(after, 1, 2)
	for left := range 7 {
		d.Left = left
		x, y, e := Sync(j, d)
		expected := cloneDisk(d)
		copy(expected.Sectors[1:], form[:min(left, 4)])
		expected.Left -= min(left, 4)
		if left < 4 {
			copy(expected.Sectors[1+left][:64], form[left][:64])
			expected.Stopped = true
		}
		if !sameDisk(y, expected) || (e == api.OK) != (left >= 4) || e != api.OK && e != api.ErrDisk {
			t.Errorf("%d writes: error %d, %v", left, e, y)
		}
		if e != api.OK && !reflect.ValueOf(x).IsZero() || e == api.OK && (x.Synced != 4 || !same(x.Records, j.Records) || x.Many != 6) {
			t.Errorf("%d writes: %v", left, x)
		}
	}
}

// P5.4: after Sync, Open returns the records.
func TestSyncedIsRead(t *testing.T) {
	r := rand.New(rand.NewSource(3))
	for range 300 {
		d := fresh(t, 1+r.Intn(30))
		j := must[api.Journal](t)(Open(d))
		for range r.Intn(12) {
			if room := Room(j); room > 0 {
				b := make([]byte, r.Intn(min(room, 400)+1))
				r.Read(b)
				j = appended(t, j, b)
			}
			if r.Intn(2) == 0 {
				x, y, e := Sync(j, d)
				j, d = must[api.Journal](t)(x, e), y
				reads(t, "synced", d, j.Records)
			}
		}
	}
}

// crash syncs records to a disk that stops after some writes, and restarts it.
func crash(t *testing.T, d api.Disk, records [][]byte, left int) api.Disk {
	t.Helper()
	j := appended(t, must[api.Journal](t)(Open(d)), records...)
	x, y, e := Sync(j, must[api.Disk](t)(disk.Stop(d, left)))
	if e != api.ErrDisk || !reflect.ValueOf(x).IsZero() || !y.Stopped {
		t.Fatalf("error %d, %v", e, x)
	}
	return disk.Restart(y)
}

// whole is the beginning of the records that lies in so many sectors.
func whole(records [][]byte, sectors int) [][]byte {
	n := 0
	for n < len(records) && sectors >= max(1, (len(records[n])+111)/112) {
		sectors -= max(1, (len(records[n])+111)/112)
		n++
	}
	return records[:n]
}

// P5.4: of what was being written whole records remain, after any number of crashes.
func TestCrashes(t *testing.T) {
	r := rand.New(rand.NewSource(4))
	for range 400 {
		d := fresh(t, 4+r.Intn(30))
		var kept [][]byte
		for range 1 + r.Intn(12) {
			j := must[api.Journal](t)(Open(d))
			var next [][]byte
			sectors := 0
			for Room(j) > 0 && (len(next) == 0 || r.Intn(3) > 0) {
				// Equal bytes, such that a torn sector can hold what was there before.
				b := bytes.Repeat([]byte{byte('a' + r.Intn(2))}, r.Intn(min(Room(j), 350)+1))
				j, next = appended(t, j, b), append(next, b)
				sectors += len(modelForm([][]byte{b}, 0, 1))
			}
			if sectors == 0 {
				break
			}
			if r.Intn(4) == 0 {
				d = stored(t, d, next)
				kept = append(kept, next...)
			} else {
				left := r.Intn(sectors)
				d = crash(t, d, next, left)
				kept = append(kept, whole(next, left)...)
			}
			reads(t, "after a crash", d, kept)
		}
	}
}

// P5.4: all short sequences of crashes keep all that was synced.
func TestCrashesShort(t *testing.T) {
	lists := [][][]byte{of("b"), of("c", ""), of(full("d") + "e"), of("f", full("g")+full("h")), of(full("i")+full("j")+"k", "l")}
	var play func(d api.Disk, kept [][]byte, depth int)
	play = func(d api.Disk, kept [][]byte, depth int) {
		reads(t, "short", d, kept)
		if depth == 0 {
			return
		}
		for _, l := range lists {
			sectors := len(modelForm(l, 0, 1))
			if sectors*112 > Room(must[api.Journal](t)(Open(d))) {
				continue
			}
			for left := range sectors {
				play(crash(t, d, l, left), slices.Concat(kept, whole(l, left)), depth-1)
			}
			play(stored(t, d, l), slices.Concat(kept, l), depth-1)
		}
	}
	play(stored(t, fresh(t, 9), of("a")), of("a"), 3)
}

// P5.4: a disk that stops before the first write has the same records as before.
func TestCrashAtOnce(t *testing.T) {
	d := fresh(t, 9)
	var kept [][]byte
	for i := range 5 {
		for _, l := range [][][]byte{of("x"), of(full("y") + "z"), of("")} {
			d = crash(t, d, l, 0)
			reads(t, "at once", d, kept)
		}
		l := of(string(rune('a' + i)))
		d, kept = stored(t, d, l), append(kept, l...)
	}
}

// P5.4: a byte that is changed takes away the record that it belongs to, and those after it.
func TestChangedByte(t *testing.T) {
	records := of("ab", full("x")+"y", "", full("z"))
	d := stored(t, fresh(t, 6), records[:2], records[2:])
	remain := []int{0, 1, 1, 2, 3}
	for k, n := range remain {
		for at := range 128 {
			for x := 1; x < 256; x++ {
				c := d
				c.Sectors = slices.Clone(d.Sectors)
				c.Sectors[k] = slices.Clone(d.Sectors[k])
				c.Sectors[k][at] ^= byte(x)
				if j, e := Open(c); e != api.OK || !same(j.Records, records[:n]) {
					t.Fatalf("sector %d, byte %d, xor %d: %q, error %d", k, at, x, j.Records, e)
				}
			}
		}
	}
	c := cloneDisk(d)
	c.Sectors[5][60] = 1
	reads(t, "a sector of no record", c, records)
}

// R2, R6: arguments and earlier results stay as they are, and equal calls return equal results.
func TestPurity(t *testing.T) {
	d := stored(t, fresh(t, 9), of("a", full("b")+"c"))
	j, e := Open(d)
	longer := appended(t, j, []byte("d"), []byte("e"))
	for _, left := range []int{-1, 0, 1, 2} {
		d.Left = left
		c, records, r := cloneDisk(d), cloneAll(longer.Records), []byte("r")
		x, y, f := Sync(longer, d)
		z := cloneDisk(y)
		x2, y2, f2 := Sync(longer, d)
		u, g := Append(longer, r)
		u2, g2 := Append(longer, r)
		j2, e2 := Open(d)
		if !reflect.DeepEqual(c, d) || !same(records, longer.Records) || string(r) != "r" || longer.Synced != 2 || !reflect.DeepEqual(y, z) {
			t.Error("an argument or a result was changed")
		}
		if !reflect.DeepEqual(x, x2) || !reflect.DeepEqual(y, y2) || f != f2 || !reflect.DeepEqual(u, u2) || g != g2 || !reflect.DeepEqual(j, j2) || e != e2 {
			t.Error("equal calls differ")
		}
	}
}

// R3: nil and empty slices are equivalent.
func TestEmptySlices(t *testing.T) {
	d := fresh(t, 3)
	e := d
	e.Pending = []api.Write{}
	reads(t, "no pending writes", e, nil)
	a := api.Journal{Many: 3, Records: [][]byte{nil, {}}}
	b := api.Journal{Many: 3, Records: [][]byte{{}, nil}}
	x, y, f := Sync(a, d)
	z, w, g := Sync(b, e)
	if f != api.OK || g != api.OK || !sameDisk(y, w) || !same(x.Records, z.Records) || Check(api.Journal{Many: 1, Records: [][]byte{}}) != api.OK {
		t.Error(f, g)
	}
	x.Records = b.Records
	if _, _, f := Sync(x, y); f != api.OK {
		t.Error(f)
	}
	u, f := Append(x, nil)
	v, g := Append(x, []byte{})
	if f != api.OK || g != api.OK || !same(u.Records, v.Records) || len(u.Records) != 3 {
		t.Error(f, g)
	}
}

// P5.1, P5.3: the records of any sectors are those of the definition, and more can be written after them.
func FuzzOpen(f *testing.F) {
	f.Add(bytes.Join(modelForm(of("ab", full("x")+"y", ""), 0, 1), nil))
	f.Add(bytes.Join(slices.Concat(modelForm(of("ab"), 0, 7), modelForm(of(full("a")+"b", "c"), 1, 8), modelForm(of("d"), 4, 7)), nil))
	f.Add([]byte{1})
	f.Fuzz(func(t *testing.T, b []byte) {
		d := onDisk()
		for p := range slices.Chunk(b[:min(len(b), 4096*128)], 128) {
			s := append(slices.Clone(p), make([]byte, 128-len(p))...)
			// Sealed, such that more than the first sector matters.
			d.Sectors = append(d.Sectors, sealed(s))
		}
		if len(d.Sectors) == 0 {
			return
		}
		records, end := modelRecords(d.Sectors)
		reads(t, "fuzz", d, records)
		j := must[api.Journal](t)(Open(d))
		x, e := Append(j, []byte("more"))
		if end == len(d.Sectors) {
			if e != api.ErrLimit {
				t.Errorf("error %d", e)
			}
			return
		}
		if _, y, e := Sync(x, d); e == api.OK {
			reads(t, "more", y, append(records, []byte("more")))
		} else if e != api.ErrLog || greatestGeneration(d.Sectors) < maxGeneration {
			t.Errorf("error %d", e)
		}
	})
}
