package wal

import (
	"bytes"
	"encoding/binary"
	"fmt"
	"math"
	"math/rand"
	"slices"
	"testing"

	"pacioli/api"
	"pacioli/disk"
)

// The tests up to TestCrash are of P5.1, those from there on of P5.2; that none of these calls panics is P0.

const sectorBytes = 64

// opened opens what must be opened.
func opened(t *testing.T, d *disk.Disk) (*Wal, [][]byte) {
	t.Helper()
	w, log, err := Open(d)
	if err != api.OK || w == nil {
		t.Fatalf("Open: %v, %v", w, err)
	}
	return w, log
}

// appended appends what must be taken.
func appended(t *testing.T, w *Wal, records ...[]byte) {
	t.Helper()
	for _, b := range records {
		if err := w.Append(b); err != api.OK {
			t.Fatalf("Append(%d bytes): %v", len(b), err)
		}
	}
}

// rising: n bytes, each one more than the one ahead of it, none of the first ones 0.
func rising(first byte, n int) []byte {
	b := make([]byte, n)
	for i := range b {
		b[i] = first + byte(i)
	}
	return b
}

// laid: a record's sectors, spelt out: of the stamps ahead, behind, its number, the length that it tells, its bytes.
func laid(front, back, number, length uint32, b []byte) [][]byte {
	body := binary.BigEndian.AppendUint32(nil, number)
	body = binary.BigEndian.AppendUint32(body, length)
	body = append(body, b...)
	for len(body)%56 != 0 {
		body = append(body, 0)
	}
	var sectors [][]byte
	for piece := range slices.Chunk(body, 56) {
		s := binary.BigEndian.AppendUint32(nil, front)
		s = append(s, piece...)
		sectors = append(sectors, binary.BigEndian.AppendUint32(s, back))
	}
	return sectors
}

// sealedRecord: a record's sectors, spelt out.
func sealedRecord(stamp, number uint32, b []byte) [][]byte {
	return laid(stamp, stamp, number, uint32(len(b)), b)
}

// put lays sectors on a disk, from one on, and makes them sure.
func put(t *testing.T, d *disk.Disk, at int, sectors ...[]byte) {
	t.Helper()
	for i, s := range sectors {
		if err := d.Write(at+i, s); err != api.OK {
			t.Fatalf("Write(%d): %v", at+i, err)
		}
	}
	if err := d.Flush(); err != api.OK {
		t.Fatal("Flush:", err)
	}
}

// image: all that stands on a disk.
func image(d *disk.Disk) []byte {
	var all []byte
	for at := range d.Len() {
		b, _ := d.Read(at)
		all = append(all, b...)
	}
	return all
}

// checkSectors holds sectors of a disk against bytes, and those behind against zeros.
func checkSectors(t *testing.T, d *disk.Disk, want ...[]byte) {
	t.Helper()
	for at := range d.Len() {
		got, _ := d.Read(at)
		w := make([]byte, sectorBytes)
		if at < len(want) {
			w = want[at]
		}
		if !bytes.Equal(got, w) {
			t.Errorf("sector %d: %x; want %x", at, got, w)
		}
	}
}

// checkWal holds how many records there are, and how many sectors they have, against numbers.
func checkWal(t *testing.T, w *Wal, count, end int) {
	t.Helper()
	if w.Len() != count || w.End() != end {
		t.Errorf("Len %d, End %d; want %d, %d", w.Len(), w.End(), count, end)
	}
}

// same: are these the same records?
func same(a, b [][]byte) bool { return slices.EqualFunc(a, b, bytes.Equal) }

// checkLog opens a disk, and holds what is there against records.
func checkLog(t *testing.T, d *disk.Disk, end int, want ...[]byte) *Wal {
	t.Helper()
	w, log := opened(t, d)
	if !same(log, want) {
		t.Errorf("Open: %x; want %x", log, want)
	}
	checkWal(t, w, len(want), end)
	return w
}

func TestExample(t *testing.T) {
	d := disk.New(1)
	w, log := opened(t, d)
	if len(log) != 0 {
		t.Errorf("Open of an empty disk: %x", log)
	}
	checkWal(t, w, 0, 0)
	appended(t, w, nil)
	checkWal(t, w, 1, 1)
	checkLog(t, d, 1, nil)
}

func TestLoad(t *testing.T) {
	if Load != 56 {
		t.Errorf("Load is %d", Load)
	}
}

// Of each length its sectors, how they are laid, and what is read again; on a disk that has just room for it, and one that has one sector less.
func TestLengths(t *testing.T) {
	cases := []struct{ length, sectors int }{
		{0, 1}, {1, 1}, {47, 1}, {48, 1}, {49, 2}, {50, 2}, {103, 2}, {104, 2}, {105, 3},
		{160, 3}, {161, 4}, {4023, 72}, {4024, 72}, {4025, 73}, {4080, 73}, {4081, 74}, {api.MaxBytes - 1, 74}, {api.MaxBytes, 74},
	}
	for _, c := range cases {
		b := rising(1, c.length)
		d := disk.New(c.sectors)
		w, _ := opened(t, d)
		appended(t, w, b)
		checkWal(t, w, 1, c.sectors)
		checkSectors(t, d, sealedRecord(1, 1, b)...)
		if d.Waits() != 0 || d.Writes() != c.sectors {
			t.Errorf("%d bytes: %d writes, %d wait", c.length, d.Writes(), d.Waits())
		}
		checkLog(t, d, c.sectors, b)
		if c.sectors > 1 {
			w, _ = opened(t, disk.New(c.sectors-1))
			if err := w.Append(b); err != api.ErrFull {
				t.Errorf("%d bytes on %d sectors: %v", c.length, c.sectors-1, err)
			}
		}
	}
}

func TestRecordsInOrder(t *testing.T) {
	d := disk.New(20)
	w, _ := opened(t, d)
	records := [][]byte{rising(1, 3), nil, rising(9, 49), rising(7, 48), rising(1, 3), make([]byte, 200)}
	ends := []int{1, 2, 4, 5, 6, 10}
	var sectors [][]byte
	for i, b := range records {
		appended(t, w, b)
		checkWal(t, w, i+1, ends[i])
		sectors = append(sectors, sealedRecord(uint32(i+1), uint32(i+1), b)...)
		checkSectors(t, d, sectors...)
		checkLog(t, d, ends[i], records[:i+1]...)
	}
}

// A log that is opened goes on as if it had never been closed.
func TestOpenedGoesOn(t *testing.T) {
	d := disk.New(api.MaxSectors)
	var records, sectors [][]byte
	for i := range 40 {
		w := checkLog(t, d, len(sectors), records...)
		b := rising(byte(i), i*7)
		appended(t, w, b)
		records = append(records, b)
		sectors = append(sectors, sealedRecord(uint32(i+1), uint32(i+1), b)...)
		checkWal(t, w, i+1, len(sectors))
	}
	checkSectors(t, d, sectors...)
}

// The number in its four bytes, on the greatest disk, full to its end.
func TestManyRecords(t *testing.T) {
	d := disk.New(api.MaxSectors)
	w, _ := opened(t, d)
	var records, sectors [][]byte
	for i := range api.MaxSectors {
		b := rising(byte(i), i%49)
		appended(t, w, b)
		records = append(records, b)
		sectors = append(sectors, sealedRecord(uint32(i+1), uint32(i+1), b)...)
	}
	checkWal(t, w, api.MaxSectors, api.MaxSectors)
	if err := w.Append(nil); err != api.ErrFull {
		t.Error("Append to a full disk:", err)
	}
	checkSectors(t, d, sectors...)
	w = checkLog(t, d, api.MaxSectors, records...)
	if err := w.Append(nil); err != api.ErrFull {
		t.Error("Append to a full disk, opened again:", err)
	}
}

// What is refused changes nothing: not the log, not the disk, and not the stamp that the next one has.
func TestRefused(t *testing.T) {
	one := rising(1, 30)
	d := disk.New(3)
	w, _ := opened(t, d)
	appended(t, w, one)
	refuse := func(length int, want api.Errno) {
		t.Helper()
		before, writes := image(d), d.Writes()
		if err := w.Append(make([]byte, length)); err != want {
			t.Errorf("Append(%d bytes): %v; want %v", length, err, want)
		}
		checkWal(t, w, 1, 1)
		if !bytes.Equal(image(d), before) || d.Writes() != writes || d.Waits() != 0 {
			t.Errorf("Append(%d bytes) wrote", length)
		}
	}
	refuse(105, api.ErrFull)
	refuse(api.MaxBytes, api.ErrFull)
	refuse(api.MaxBytes+1, api.ErrLong) // ahead of ErrFull
	refuse(1<<20, api.ErrLong)
	d.Arm(0)
	refuse(105, api.ErrFull) // ahead of ErrDown
	refuse(api.MaxBytes+1, api.ErrLong)
	d.Crash(0, -1, 0)
	two := rising(5, 104)
	appended(t, w, two)
	checkSectors(t, d, slices.Concat(sealedRecord(1, 1, one), sealedRecord(2, 2, two))...)
}

func TestLongThoughThereIsRoom(t *testing.T) {
	d := disk.New(200)
	w, _ := opened(t, d)
	if err := w.Append(make([]byte, api.MaxBytes+1)); err != api.ErrLong {
		t.Error(err)
	}
	checkWal(t, w, 0, 0)
	appended(t, w, make([]byte, api.MaxBytes), make([]byte, api.MaxBytes))
	checkWal(t, w, 2, 148)
	if err := w.Append(make([]byte, api.MaxBytes)); err != api.ErrFull {
		t.Error(err)
	}
	checkLog(t, d, 148, make([]byte, api.MaxBytes), make([]byte, api.MaxBytes))
}

// stamped: a sector that bears two stamps, and zeros else.
func stamped(front, back uint32) []byte { return laid(front, back, 0, 0, nil)[0] }

// The next stamp is one greater than all that stand on the disk, wherever they do, also if they are wiped in opening.
func TestStampOfWhatStands(t *testing.T) {
	one, two := rising(1, 60), rising(2, 60)
	cases := []struct {
		name   string
		behind [][]byte
		want   uint32
	}{
		{"none", nil, 6},
		{"ahead", [][]byte{stamped(70, 0)}, 71},
		{"behind", [][]byte{stamped(0, 70)}, 71},
		{"both, ahead greater", [][]byte{stamped(72, 71)}, 73},
		{"both, behind greater", [][]byte{stamped(71, 72)}, 73},
		{"smaller", [][]byte{stamped(3, 4)}, 6},
		{"several", [][]byte{stamped(9, 8), stamped(0, 0), stamped(300, 11), stamped(2, 299)}, 301},
		{"last sector, ahead", [][]byte{nil, nil, nil, nil, nil, stamped(1<<24, 0)}, 1<<24 + 1},
		{"last sector, behind", [][]byte{nil, nil, nil, nil, nil, stamped(0, math.MaxUint32-1)}, math.MaxUint32},
	}
	for _, c := range cases {
		t.Run(c.name, func(t *testing.T) {
			d := disk.New(8)
			put(t, d, 0, sealedRecord(5, 1, one)...)
			put(t, d, 2, c.behind...)
			w := checkLog(t, d, 2, one)
			checkSectors(t, d, sealedRecord(5, 1, one)...)
			appended(t, w, two)
			sectors := slices.Concat(sealedRecord(5, 1, one), sealedRecord(c.want, 2, two))
			checkSectors(t, d, sectors...)
			appended(t, w, nil)
			if c.want < math.MaxUint32 {
				checkSectors(t, d, slices.Concat(sectors, sealedRecord(c.want+1, 3, nil))...)
			}
			checkLog(t, d, 5, one, two, nil)
		})
	}
}

// The log's own stamps need not rise: the greatest of them counts.
func TestStampOfTheLog(t *testing.T) {
	d := disk.New(4)
	sectors := slices.Concat(sealedRecord(900, 1, nil), sealedRecord(3, 2, nil), sealedRecord(3, 3, nil))
	put(t, d, 0, sectors...)
	w := checkLog(t, d, 3, nil, nil, nil)
	appended(t, w, nil)
	checkSectors(t, d, append(sectors, sealedRecord(901, 4, nil)...)...)
}

// A stamp that was used, and failed, isn't used again.
func TestStampThatFailed(t *testing.T) {
	one, two := rising(1, 60), rising(2, 60)
	d := disk.New(4)
	w, _ := opened(t, d)
	d.Arm(1)
	if err := w.Append(one); err != api.ErrDown {
		t.Fatal(err)
	}
	d.Crash(0, -1, 0)
	appended(t, w, two)
	checkSectors(t, d, sealedRecord(2, 1, two)...)

	d = disk.New(4)
	w, _ = opened(t, d)
	d.Arm(1)
	if err := w.Append(one); err != api.ErrDown {
		t.Fatal(err)
	}
	d.Crash(1, -1, 0)
	w = checkLog(t, d, 0)
	appended(t, w, two)
	checkSectors(t, d, sealedRecord(2, 1, two)...)
}

// Four bytes hold no greater stamp than the last one; what is appended behind it is there nevertheless.
func TestStampBehindTheLast(t *testing.T) {
	d := disk.New(4)
	put(t, d, 3, bytes.Repeat([]byte{0xff}, sectorBytes))
	w := checkLog(t, d, 0)
	appended(t, w, rising(1, 60), rising(2, 3))
	checkLog(t, d, 3, rising(1, 60), rising(2, 3))
}

// What looks like a record, but is none; the one ahead of it stays.
func TestNotWhole(t *testing.T) {
	b := rising(1, 120) // three sectors
	whole := sealedRecord(6, 2, b)
	with := func(at, place int, x byte) [][]byte {
		sectors := sealedRecord(6, 2, b)
		sectors[at][place] ^= x
		return sectors
	}
	cases := map[string][][]byte{
		"no stamp":             laid(0, 0, 2, uint32(len(b)), b),
		"unlike stamps":        laid(6, 7, 2, uint32(len(b)), b),
		"no stamp behind":      laid(6, 0, 2, uint32(len(b)), b),
		"no stamp ahead":       laid(0, 6, 2, uint32(len(b)), b),
		"number 0":             sealedRecord(6, 0, b),
		"number 1 again":       sealedRecord(6, 1, b),
		"number 3":             sealedRecord(6, 3, b),
		"number of 2^24 more":  sealedRecord(6, 1<<24+2, b),
		"length past MaxBytes": laid(6, 6, 2, api.MaxBytes+1, make([]byte, api.MaxBytes+1)),
		"greatest length":      laid(6, 6, 2, math.MaxUint32, b),
		"length past the end":  laid(6, 6, 2, api.MaxBytes, make([]byte, 4080)),
		"second one missing":   {whole[0], make([]byte, sectorBytes), whole[2]},
		"third one missing":    whole[:2],
		"first one missing":    {make([]byte, sectorBytes), whole[1], whole[2]},
		"of two records":       {whole[0], whole[1], sealedRecord(7, 2, b)[2]},
		"begins late":          slices.Concat([][]byte{stamped(0, 0)}, whole),
	}
	for at := range whole {
		for _, place := range []int{0, 1, 2, 3, 60, 61, 62, 63} {
			for _, x := range []byte{1, 128} {
				cases[fmt.Sprintf("sector %d, byte %d, other by %d", at, place, x)] = with(at, place, x)
			}
		}
	}
	for name, sectors := range cases {
		t.Run(name, func(t *testing.T) {
			d := disk.New(75)
			put(t, d, 0, sealedRecord(5, 1, rising(3, 4))...)
			put(t, d, 1, sectors[:min(len(sectors), 74)]...)
			if name == "length past the end" {
				// Of its 74 sectors 73 are there, and the disk ends.
				d = disk.New(74)
				put(t, d, 0, sealedRecord(5, 1, rising(3, 4))...)
				put(t, d, 1, sectors...)
			}
			checkLog(t, d, 1, rising(3, 4))
			checkSectors(t, d, sealedRecord(5, 1, rising(3, 4))...)
		})
	}
	d := disk.New(75)
	put(t, d, 0, sealedRecord(5, 1, rising(3, 4))...)
	put(t, d, 1, whole...)
	checkLog(t, d, 4, rising(3, 4), b)
}

// A log begins at the first sector, with number 1.
func TestBeginsAtTheFirst(t *testing.T) {
	for name, sectors := range map[string][][]byte{
		"number 2": sealedRecord(1, 2, nil),
		"number 0": sealedRecord(1, 0, nil),
		"late":     {stamped(0, 0), sealedRecord(1, 1, nil)[0]},
	} {
		d := disk.New(3)
		put(t, d, 0, sectors...)
		w := checkLog(t, d, 0)
		checkSectors(t, d)
		if err := w.Append(nil); err != api.OK {
			t.Error(name, err)
		}
	}
}

// Whole ones of the greatest length, up to the disk's end, whatever their stamps.
func TestWholeAtTheEdges(t *testing.T) {
	b := rising(1, api.MaxBytes)
	for _, stamp := range []uint32{1, 255, 256, 1 << 16, 1 << 24, 1 << 31, math.MaxUint32} {
		d := disk.New(74)
		put(t, d, 0, sealedRecord(stamp, 1, b)...)
		checkLog(t, d, 74, b)
		checkSectors(t, d, sealedRecord(stamp, 1, b)...)
	}
}

// What is behind the log is wiped: each sector that isn't zeros once, in order, and flushed.
func TestWipes(t *testing.T) {
	one := rising(1, 60)
	garbage := func() [][]byte {
		last := make([]byte, sectorBytes)
		last[63] = 1
		middle := make([]byte, sectorBytes)
		middle[30] = 1
		return [][]byte{nil, stamped(4, 0), nil, bytes.Repeat([]byte{9}, sectorBytes), middle, nil, last, sealedRecord(9, 2, nil)[0]}
	}
	fresh := func() *disk.Disk {
		d := disk.New(10)
		put(t, d, 0, sealedRecord(5, 1, one)...)
		put(t, d, 2, garbage()...)
		return d
	}
	d := fresh()
	writes := d.Writes()
	checkLog(t, d, 2, one)
	if d.Writes() != writes+5 || d.Waits() != 0 {
		t.Errorf("%d writes, %d wait; want 5, 0", d.Writes()-writes, d.Waits())
	}
	checkSectors(t, d, sealedRecord(5, 1, one)...)
	checkLog(t, d, 2, one)
	if d.Writes() != writes+5 {
		t.Errorf("opened again: %d writes more", d.Writes()-writes-5)
	}
	wiped := []int{3, 5, 6, 8, 9}
	for n := range 6 {
		d := fresh()
		want := sealedRecord(5, 1, one)
		for _, s := range garbage() {
			want = append(want, append(s, make([]byte, sectorBytes-len(s))...))
		}
		for _, at := range wiped[:n] {
			want[at] = make([]byte, sectorBytes)
		}
		d.Arm(n)
		w, log, err := Open(d)
		if w != nil || log != nil || err != api.ErrDown {
			t.Errorf("down behind %d: %v, %x, %v", n, w, log, err)
		}
		checkSectors(t, d, want...)
		d.Crash(math.MaxUint64, -1, 0)
		checkSectors(t, d, want...)
		checkLog(t, d, 2, one)
		checkSectors(t, d, sealedRecord(5, 1, one)...)
	}
}

// What waits is read, and is sure behind opening, or else one might be told of what is lost.
func TestOpenFlushes(t *testing.T) {
	one := rising(1, 60)
	d := disk.New(4)
	for at, s := range sealedRecord(5, 1, one) {
		if err := d.Write(at, s); err != api.OK {
			t.Fatal(err)
		}
	}
	checkLog(t, d, 2, one)
	if d.Waits() != 0 {
		t.Errorf("%d wait", d.Waits())
	}
	d.Crash(0, -1, 0)
	checkLog(t, d, 2, one)
}

func TestOpenOfADiskThatIsDown(t *testing.T) {
	d := disk.New(4)
	d.Arm(0)
	if w, log, err := Open(d); w != nil || log != nil || err != api.ErrDown {
		t.Errorf("empty: %v, %x, %v", w, log, err)
	}
	d.Crash(0, -1, 0)
	w, _ := opened(t, d)
	appended(t, w, rising(1, 3))
	d.Arm(0)
	before := image(d)
	if w, log, err := Open(d); w != nil || log != nil || err != api.ErrDown {
		t.Errorf("with a record: %v, %x, %v", w, log, err)
	}
	if !bytes.Equal(image(d), before) {
		t.Error("it wrote")
	}
	d.Crash(0, -1, 0)
	checkLog(t, d, 1, rising(1, 3))
}

func TestOpenOfNoDisk(t *testing.T) {
	if w, log, err := Open(disk.New(0)); w != nil || log != nil || err != api.ErrBad {
		t.Errorf("%v, %x, %v", w, log, err)
	}
}

// Down at each write on the way: ErrDown, with just so many writes, in order; also if only the flush is refused.
func TestAppendGoesDown(t *testing.T) {
	one, two := rising(1, 30), rising(2, 150) // one sector, three sectors
	for n := range 4 {
		d := disk.New(6)
		w, _ := opened(t, d)
		appended(t, w, one)
		d.Arm(n)
		if err := w.Append(two); err != api.ErrDown {
			t.Errorf("down behind %d: %v", n, err)
		}
		if d.Writes() != 1+n || d.Waits() != n {
			t.Errorf("down behind %d: %d writes, %d wait", n, d.Writes(), d.Waits())
		}
		checkSectors(t, d, slices.Concat(sealedRecord(1, 1, one), sealedRecord(2, 2, two)[:n])...)
		d.Crash(0, -1, 0)
		checkLog(t, d, 1, one)
	}
	d := disk.New(6)
	w, _ := opened(t, d)
	appended(t, w, one)
	d.Arm(4)
	appended(t, w, two)
	if d.Down() || d.Waits() != 0 {
		t.Error("a disk that takes one more:", d.Down(), d.Waits())
	}
	checkWal(t, w, 2, 4)
}

// plainLog: the log that a disk's bytes hold, spelt out another way: from record n on, byte by byte.
func plainLog(all []byte, n uint32) [][]byte {
	if len(all) < sectorBytes {
		return nil
	}
	length := int(binary.BigEndian.Uint32(all[8:]))
	if binary.BigEndian.Uint32(all[4:]) != n || length > api.MaxBytes || bytes.Equal(all[:4], make([]byte, 4)) {
		return nil
	}
	var body []byte
	at := 0
	for ; len(body) < 8+length; at += sectorBytes {
		if at == len(all) || !bytes.Equal(all[at:at+4], all[:4]) || !bytes.Equal(all[at+60:at+64], all[:4]) {
			return nil
		}
		body = append(body, all[at+4:at+60]...)
	}
	return append([][]byte{body[8 : 8+length]}, plainLog(all[at:], n+1)...)
}

// Of any disk, with whatever on it, what is whole; all else is wiped, and the greatest stamp is known.
func TestAnyDisk(t *testing.T) {
	r := rand.New(rand.NewSource(6))
	seen := map[int]int{}
	for range 3000 {
		d := disk.New(1 + r.Intn(12))
		number := uint32(1)
		for at := 0; at < d.Len(); {
			b := make([]byte, r.Intn(120))
			r.Read(b)
			stamp := uint32(r.Intn(4))
			sectors := sealedRecord(stamp, number, b)
			number++
			if r.Intn(4) == 0 {
				s := sectors[r.Intn(len(sectors))]
				s[[]int{0, 3, 5, 7, 10, 11, 60, 63}[r.Intn(8)]] ^= 1 << r.Intn(8)
			}
			for _, s := range sectors {
				if at < d.Len() {
					put(t, d, at, s)
				}
				at++
			}
		}
		all := image(d)
		want := plainLog(all, 1)
		greatest := uint32(0)
		for s := range slices.Chunk(all, sectorBytes) {
			greatest = max(greatest, binary.BigEndian.Uint32(s), binary.BigEndian.Uint32(s[60:]))
		}
		end := 0
		for i, b := range want {
			end += len(sealedRecord(1, uint32(i), b))
		}
		seen[len(want)]++
		w := checkLog(t, d, end, want...)
		if after := image(d); !bytes.Equal(after[:end*sectorBytes], all[:end*sectorBytes]) || bytes.Count(after[end*sectorBytes:], []byte{0}) != len(after)-end*sectorBytes {
			t.Fatalf("%x; %x was there", after, all)
		}
		if end < d.Len() {
			appended(t, w, []byte{1, 2})
			if s, _ := d.Read(end); !bytes.Equal(s, sealedRecord(greatest+1, uint32(len(want)+1), []byte{1, 2})[0]) {
				t.Fatalf("%x, behind the stamp %d", s, greatest)
			}
		}
	}
	if len(seen) < 5 {
		t.Error("too few kinds of logs were seen:", seen)
	}
}

// Bytes that are handed in are neither changed nor kept; those that are answered are nobody else's.
func TestMemory(t *testing.T) {
	for _, length := range []int{0, 1, 48, 49, 500} {
		b := append(rising(1, length), 77)[:length]
		want := slices.Clone(b)
		d := disk.New(30)
		w, _ := opened(t, d)
		appended(t, w, b)
		if !bytes.Equal(b, want) || b[:length+1][length] != 77 {
			t.Errorf("%d bytes were changed", length)
		}
		for i := range b {
			b[i] = 0xee
		}
		appended(t, w, b)
		w, log := opened(t, d)
		checkWal(t, w, 2, 2*sectorsOf(length))
		if !bytes.Equal(log[0], want) {
			t.Errorf("%d bytes were kept", length)
		}
		for i := range log[0] {
			log[0][i] = 0xdd
		}
		_ = append(log[0][:length], rising(5, 60)...)
		if !bytes.Equal(log[1], b) {
			t.Errorf("%d bytes: one answer changed the other", length)
		}
		checkLog(t, d, 2*sectorsOf(length), want, b)
	}
}

// checkOneMore opens a disk: the records that were sure, and perhaps the one that was on its way; then one more is appended, and opened.
func checkOneMore(t *testing.T, d *disk.Disk, sure [][]byte, onItsWay []byte) {
	t.Helper()
	w, log := opened(t, d)
	if !same(log, sure) && !same(log, append(slices.Clone(sure), onItsWay)) {
		t.Fatalf("%d records: %x", len(log), log)
	}
	end := 0
	for _, b := range log {
		end += (8 + len(b) + 55) / 56
	}
	checkWal(t, w, len(log), end)
	for _, s := range image(d)[end*sectorBytes:] {
		if s != 0 {
			t.Fatal("behind the log is something")
		}
	}
	more := rising(200, 70)
	appended(t, w, more)
	checkLog(t, d, end+2, append(log, more)...)
}

// everyCrash does with a disk, made anew each time, what crashes of so many writes that wait may do, one mask, one torn one, one cut after the other.
func everyCrash(waits int, crashed func(mask uint64, torn, cut int)) {
	for mask := range uint64(1) << waits {
		crashed(mask, -1, 0)
		for torn := range waits + 1 {
			if mask>>torn&1 == 0 {
				crashed(mask, torn, 5)
				continue
			}
			for cut := range sectorBytes + 1 {
				crashed(mask, torn, cut)
			}
		}
	}
}

// A crash behind each write of an append, whatever it keeps, and tears.
func TestCrash(t *testing.T) {
	sure := [][]byte{rising(1, 30), rising(2, 60)}
	for _, last := range [][]byte{rising(3, 0), rising(3, 48), rising(3, 49), rising(3, 130), make([]byte, 150)} {
		sectors := sectorsOf(len(last))
		for n := range sectors + 1 {
			kept := 0
			everyCrash(n, func(mask uint64, torn, cut int) {
				d := disk.New(10)
				w, _ := opened(t, d)
				appended(t, w, sure...)
				d.Arm(n)
				if err := w.Append(last); err != api.ErrDown {
					t.Fatal(err)
				}
				d.Crash(mask, torn, cut)
				whole := n == sectors && mask == 1<<n-1 && (torn < 0 || torn >= n || cut == sectorBytes)
				if w, _ := opened(t, d); w.Len() == len(sure)+1 {
					kept++
				} else if whole {
					t.Fatalf("all of it was kept, but it isn't there: %x %d %d", mask, torn, cut)
				}
				checkOneMore(t, d, sure, last)
			})
			if n < sectors && kept > 0 {
				t.Errorf("%d bytes: %d sectors of %d are a record", len(last), n, sectors)
			}
		}
	}
}

// A crash loses nothing that was answered.
func TestCrashBehindAppend(t *testing.T) {
	var records [][]byte
	d := disk.New(60)
	w, _ := opened(t, d)
	for i := range 12 {
		b := rising(byte(i), i*13)
		appended(t, w, b)
		records = append(records, b)
		d.Crash(0, -1, 0)
		w, _ = opened(t, d)
		checkWal(t, w, len(records), w.End())
	}
	checkLog(t, d, w.End(), records...)
}

// half: a disk with two records, and sectors of a third one, of four, of which a crash has kept some.
func half(t *testing.T, keep uint64) (*disk.Disk, [][]byte, []byte) {
	t.Helper()
	sure, last := [][]byte{rising(1, 30), rising(2, 60)}, rising(3, 200)
	d := disk.New(10)
	w, _ := opened(t, d)
	appended(t, w, sure...)
	d.Arm(4)
	if err := w.Append(last); err != api.ErrDown {
		t.Fatal(err)
	}
	d.Crash(keep, -1, 0)
	return d, sure, last
}

// A crash on the way of opening, whatever it keeps of what is wiped, and opening again.
func TestCrashInOpening(t *testing.T) {
	for keep := range uint64(15) { // not all four: then there is nothing to wipe
		d, _, _ := half(t, keep)
		writes := d.Writes()
		opened(t, d)
		wipes := d.Writes() - writes
		for n := range wipes + 1 {
			everyCrash(n, func(mask uint64, torn, cut int) {
				d, sure, last := half(t, keep)
				d.Arm(n)
				if w, log, err := Open(d); w != nil || log != nil || err != api.ErrDown {
					t.Fatal(w, log, err)
				}
				d.Crash(mask, torn, cut)
				checkOneMore(t, d, sure, last)
			})
		}
	}
}

// Crashes on the way of opening, one behind the other, are no more than one.
func TestCrashesInOpening(t *testing.T) {
	for keep := range uint64(15) {
		for n := range 3 {
			for first := range uint64(1) << n {
				for second := range uint64(1) << n {
					d, sure, last := half(t, keep)
					for _, mask := range []uint64{first, second} {
						d.Arm(n)
						if _, _, err := Open(d); err != api.ErrDown && d.Down() {
							t.Fatal(err)
						}
						d.Crash(mask, -1, 0)
					}
					checkOneMore(t, d, sure, last)
				}
			}
		}
	}
}

// Many appends, openings and crashes: what was there once is there; none but the one on its way may come or not.
func TestManyCrashes(t *testing.T) {
	r := rand.New(rand.NewSource(5))
	for range 300 {
		d := disk.New(1 + r.Intn(40))
		w, _ := opened(t, d)
		var sure [][]byte
		for range 60 {
			b := make([]byte, r.Intn(180))
			r.Read(b)
			if r.Intn(3) == 0 {
				d.Arm(r.Intn(6))
			}
			room := w.End()+(8+len(b)+55)/56 <= d.Len()
			err := w.Append(b)
			if err == api.OK {
				sure = append(sure, b)
				continue
			}
			if err == api.ErrFull && room || err != api.ErrFull && err != api.ErrDown || err == api.ErrDown && !d.Down() {
				t.Fatal(err)
			}
			w, sure = afterCrashes(t, r, d, sure, b, err == api.ErrDown)
		}
		checkLog(t, d, w.End(), sure...)
	}
}

// afterCrashes crashes a disk till it is opened, and tells what is there.
func afterCrashes(t *testing.T, r *rand.Rand, d *disk.Disk, sure [][]byte, onItsWay []byte, may bool) (*Wal, [][]byte) {
	t.Helper()
	for {
		d.Crash(r.Uint64()|r.Uint64(), r.Intn(8)-1, r.Intn(sectorBytes+1))
		if r.Intn(2) == 0 {
			d.Arm(r.Intn(5))
		}
		w, log, err := Open(d)
		if err != api.OK {
			if err != api.ErrDown || w != nil || log != nil {
				t.Fatal(w, log, err)
			}
			continue
		}
		if !same(log, sure) && !(may && same(log, append(slices.Clone(sure), onItsWay))) {
			t.Fatalf("%d records; %d were sure", len(log), len(sure))
		}
		return w, log
	}
}
