package disk

import (
	"bytes"
	"math"
	"math/rand"
	"slices"
	"testing"

	"pacioli/api"
)

// Every test here is one of P4.1; that none of these calls panics is P0.

const sectorBytes = 64

// full: a sector's bytes, all alike.
func full(c byte) []byte { return bytes.Repeat([]byte{c}, sectorBytes) }

// padded: bytes, and zeros behind, up to a sector.
func padded(b ...byte) []byte { return append(slices.Clone(b), make([]byte, sectorBytes-len(b))...) }

// rising: n bytes, each one more than the one ahead of it.
func rising(first byte, n int) []byte {
	b := make([]byte, n)
	for i := range b {
		b[i] = first + byte(i)
	}
	return b
}

// mixed: a sector's first n bytes of one, and what is behind them of another.
func mixed(n int, ahead, behind []byte) []byte {
	return append(slices.Clone(ahead[:n]), behind[n:]...)
}

// wrote writes what must be taken.
func wrote(t *testing.T, d *Disk, at int, b []byte) {
	t.Helper()
	if err := d.Write(at, b); err != api.OK {
		t.Fatalf("Write(%d, %d bytes): %v", at, len(b), err)
	}
}

// flushed makes sure what must be made sure.
func flushed(t *testing.T, d *Disk) {
	t.Helper()
	if err := d.Flush(); err != api.OK {
		t.Fatal("Flush:", err)
	}
}

// checkRead holds a sector against bytes.
func checkRead(t *testing.T, d *Disk, at int, want []byte) {
	t.Helper()
	if got, err := d.Read(at); err != api.OK || !bytes.Equal(got, want) {
		t.Errorf("Read(%d): %x, %v; want %x", at, got, err, want)
	}
}

// checkCounts holds what there was, what waits, and whether it is down against numbers.
func checkCounts(t *testing.T, d *Disk, writes, waits int, down bool) {
	t.Helper()
	if d.Writes() != writes || d.Waits() != waits || d.Down() != down {
		t.Errorf("Writes %d, Waits %d, Down %v; want %d, %d, %v", d.Writes(), d.Waits(), d.Down(), writes, waits, down)
	}
}

func TestExample(t *testing.T) {
	d := New(1)
	wrote(t, d, 0, full(7))
	d.Crash(1, 0, 3)
	checkRead(t, d, 0, padded(7, 7, 7))
}

func TestNew(t *testing.T) {
	for _, n := range []int{1, 2, 3, 63, 64, 65, api.MaxSectors - 1, api.MaxSectors} {
		d := New(n)
		if d == nil {
			t.Fatalf("New(%d) is nil", n)
		}
		if d.Len() != n {
			t.Errorf("New(%d) has %d sectors", n, d.Len())
		}
		checkCounts(t, d, 0, 0, false)
		for at := range n {
			checkRead(t, d, at, full(0))
		}
	}
	for _, n := range []int{0, -1, -64, math.MinInt, api.MaxSectors + 1, 2 * api.MaxSectors, 1 << 32, math.MaxInt} {
		if New(n) != nil {
			t.Errorf("New(%d) isn't nil", n)
		}
	}
}

func TestLenStays(t *testing.T) {
	d := New(3)
	wrote(t, d, 2, full(1))
	d.Crash(0, 0, 0)
	flushed(t, d)
	d.Arm(0)
	d.Write(0, nil)
	if d.Len() != 3 {
		t.Error(d.Len())
	}
}

// outside: places at which a disk of n sectors has none.
func outside(n int) []int {
	return []int{-1, -2, -n, math.MinInt, math.MinInt + 1, n, n + 1, 2 * n, api.MaxSectors, api.MaxSectors + 1, 1 << 32, math.MaxInt}
}

func TestReadEdges(t *testing.T) {
	for _, n := range []int{1, 2, 5, api.MaxSectors} {
		d := New(n)
		wrote(t, d, 0, full(1))
		wrote(t, d, n-1, full(2))
		if n > 1 {
			checkRead(t, d, 0, full(1))
		}
		checkRead(t, d, n-1, full(2))
		for _, at := range outside(n) {
			if b, err := d.Read(at); err != api.ErrBad || len(b) != 0 {
				t.Errorf("of %d: Read(%d): %x, %v", n, at, b, err)
			}
		}
		checkCounts(t, d, 2, 2, false)
	}
}

func TestWriteEdges(t *testing.T) {
	for _, n := range []int{1, 2, 5, api.MaxSectors} {
		d := New(n)
		for _, at := range outside(n) {
			for _, b := range [][]byte{nil, {}, full(9), rising(1, 65)} {
				if err := d.Write(at, b); err != api.ErrBad {
					t.Errorf("of %d: Write(%d, %d bytes): %v", n, at, len(b), err)
				}
			}
		}
		checkCounts(t, d, 0, 0, false)
		for at := range n {
			checkRead(t, d, at, full(0))
		}
		for at := range n {
			wrote(t, d, at, rising(byte(at), 64))
		}
		for at := range n {
			checkRead(t, d, at, rising(byte(at), 64))
		}
		checkCounts(t, d, n, n, false)
	}
}

func TestWriteOfEveryLength(t *testing.T) {
	for n := range sectorBytes + 1 {
		d := New(3)
		for at := range 3 {
			wrote(t, d, at, full(255))
		}
		flushed(t, d)
		b := rising(1, n)
		wrote(t, d, 1, b)
		checkRead(t, d, 1, padded(b...))
		flushed(t, d)
		checkRead(t, d, 1, padded(b...))
		checkRead(t, d, 0, full(255))
		checkRead(t, d, 2, full(255))
	}
}

func TestWriteOfNothing(t *testing.T) {
	for _, b := range [][]byte{nil, {}} {
		d := New(1)
		wrote(t, d, 0, full(5))
		wrote(t, d, 0, b)
		checkRead(t, d, 0, full(0))
		checkCounts(t, d, 2, 2, false)
	}
}

func TestWriteTooLong(t *testing.T) {
	d := New(2)
	wrote(t, d, 0, full(3))
	for _, n := range []int{65, 66, 127, 128, 129, 4096, 1 << 20} {
		if err := d.Write(0, make([]byte, n)); err != api.ErrBad {
			t.Errorf("Write of %d bytes: %v", n, err)
		}
	}
	checkRead(t, d, 0, full(3))
	checkRead(t, d, 1, full(0))
	checkCounts(t, d, 1, 1, false)
}

// Of a sector that was written twice the last one is read, whatever was written between, and be the first one sure or not.
func TestReadAsItWasWrittenLast(t *testing.T) {
	for _, sure := range []bool{false, true} {
		d := New(3)
		wrote(t, d, 1, full(1))
		if sure {
			flushed(t, d)
		}
		checkRead(t, d, 1, full(1))
		wrote(t, d, 1, []byte{2, 3})
		checkRead(t, d, 1, padded(2, 3))
		wrote(t, d, 0, full(4))
		wrote(t, d, 2, full(5))
		checkRead(t, d, 1, padded(2, 3))
		flushed(t, d)
		for at, want := range [][]byte{full(4), padded(2, 3), full(5)} {
			checkRead(t, d, at, want)
		}
	}
}

func TestWhatWaitsIsLost(t *testing.T) {
	d := New(2)
	wrote(t, d, 0, full(1))
	flushed(t, d)
	wrote(t, d, 0, full(2))
	wrote(t, d, 1, full(3))
	checkCounts(t, d, 3, 2, false)
	d.Crash(0, -1, 0)
	checkRead(t, d, 0, full(1))
	checkRead(t, d, 1, full(0))
	checkCounts(t, d, 3, 0, false)
}

func TestFlushMakesSure(t *testing.T) {
	d := New(3)
	flushed(t, d)
	checkCounts(t, d, 0, 0, false)
	wrote(t, d, 0, full(1))
	wrote(t, d, 1, full(2))
	wrote(t, d, 0, full(3))
	flushed(t, d)
	checkCounts(t, d, 3, 0, false)
	for range 2 {
		d.Crash(0, 0, 0)
		for at, want := range [][]byte{full(3), full(2), full(0)} {
			checkRead(t, d, at, want)
		}
	}
	flushed(t, d)
	checkCounts(t, d, 3, 0, false)
}

func TestArm(t *testing.T) {
	for _, c := range []struct{ n, takes int }{
		{0, 0}, {-1, 0}, {-5, 0}, {math.MinInt, 0}, {1, 1}, {2, 2}, {5, 5}, {100, 100},
	} {
		d := New(4)
		for i := range 3 { // ahead of it: they don't count
			wrote(t, d, i, full(1))
		}
		d.Arm(c.n)
		for i := range c.takes {
			if d.Down() {
				t.Fatalf("Arm(%d): down behind %d", c.n, i)
			}
			wrote(t, d, i%4, full(byte(i)))
		}
		checkCounts(t, d, 3+c.takes, 3+c.takes, true)
		if err := d.Write(0, nil); err != api.ErrDown {
			t.Errorf("Arm(%d): a write too many: %v", c.n, err)
		}
		checkCounts(t, d, 3+c.takes, 3+c.takes, true)
	}
}

func TestArmWithTheGreatest(t *testing.T) {
	d := New(1)
	d.Arm(math.MaxInt)
	for range 1000 {
		wrote(t, d, 0, nil)
	}
	flushed(t, d)
	checkCounts(t, d, 1000, 0, false)
}

func TestNotArmedNeverDown(t *testing.T) {
	d := New(1)
	for i := range 5000 {
		wrote(t, d, 0, full(byte(i)))
	}
	checkCounts(t, d, 5000, 5000, false)
}

// Only writes that were made count: neither those that were refused, nor reads, nor flushes.
func TestArmCountsWritesAlone(t *testing.T) {
	d := New(1)
	d.Arm(2)
	for range 5 {
		d.Write(1, nil)
		d.Write(-1, nil)
		d.Write(0, make([]byte, 65))
		d.Read(0)
		d.Read(1)
		flushed(t, d)
	}
	checkCounts(t, d, 0, 0, false)
	wrote(t, d, 0, full(1))
	flushed(t, d)
	checkCounts(t, d, 1, 0, false)
	wrote(t, d, 0, full(2))
	checkCounts(t, d, 2, 1, true)
}

// Armed anew it counts from there on, be it more or fewer than before.
func TestArmAnew(t *testing.T) {
	d := New(1)
	d.Arm(2)
	wrote(t, d, 0, full(1))
	d.Arm(2)
	wrote(t, d, 0, full(2))
	checkCounts(t, d, 2, 2, false)
	wrote(t, d, 0, full(3))
	checkCounts(t, d, 3, 3, true)
	d.Arm(1)
	checkCounts(t, d, 3, 3, false)
	wrote(t, d, 0, full(4))
	checkCounts(t, d, 4, 4, true)
	d.Arm(9)
	d.Arm(-9)
	checkCounts(t, d, 4, 4, true)
}

func TestDownErrorsInOrder(t *testing.T) {
	d := New(2)
	wrote(t, d, 0, full(1))
	flushed(t, d)
	d.Arm(1)
	wrote(t, d, 1, full(2))
	for _, c := range []struct {
		at, n int
		want  api.Errno
	}{
		{0, 0, api.ErrDown}, {1, 64, api.ErrDown}, {0, 65, api.ErrBad}, {2, 0, api.ErrBad}, {-1, 64, api.ErrBad}, {2, 65, api.ErrBad},
	} {
		if err := d.Write(c.at, make([]byte, c.n)); err != c.want {
			t.Errorf("Write(%d, %d bytes): %v, want %v", c.at, c.n, err, c.want)
		}
	}
	if err := d.Flush(); err != api.ErrDown {
		t.Error("Flush:", err)
	}
	checkCounts(t, d, 2, 1, true)
	checkRead(t, d, 0, full(1))
	checkRead(t, d, 1, full(2))
	if b, err := d.Read(2); err != api.ErrBad || len(b) != 0 {
		t.Error("Read(2):", b, err)
	}
}

// A flush that is refused has made nothing sure.
func TestFlushWhileDownChangesNothing(t *testing.T) {
	d := New(1)
	wrote(t, d, 0, full(1))
	d.Arm(0)
	if err := d.Flush(); err != api.ErrDown {
		t.Error("Flush:", err)
	}
	checkCounts(t, d, 1, 1, true)
	d.Crash(0, -1, 0)
	checkRead(t, d, 0, full(0))
}

func TestCrashByEachMask(t *testing.T) {
	const waits = 6
	for mask := range uint64(1 << waits) {
		for _, above := range []uint64{0, 1 << waits, 1 << 63} { // bits of no write
			d := New(waits)
			for i := range waits {
				wrote(t, d, i, full(byte(i+1)))
			}
			d.Crash(mask|above, -1, 0)
			for i := range waits {
				want := full(0)
				if mask>>i&1 == 1 {
					want = full(byte(i + 1))
				}
				checkRead(t, d, i, want)
			}
			checkCounts(t, d, waits, 0, false)
		}
	}
}

// The writes are counted from 0 by what waits, not by sectors, nor by what was sure before.
func TestCrashCountsWhatWaits(t *testing.T) {
	d := New(4)
	wrote(t, d, 0, full(1))
	wrote(t, d, 1, full(2))
	flushed(t, d)
	wrote(t, d, 3, full(3))
	wrote(t, d, 2, full(4))
	wrote(t, d, 0, full(5))
	d.Crash(1, -1, 0)
	for at, want := range [][]byte{full(1), full(2), full(0), full(3)} {
		checkRead(t, d, at, want)
	}
	wrote(t, d, 1, full(6))
	wrote(t, d, 2, full(7))
	d.Crash(2, -1, 0)
	for at, want := range [][]byte{full(1), full(2), full(7), full(3)} {
		checkRead(t, d, at, want)
	}
}

// What is kept of a sector that was written twice is laid in order, and what isn't kept leaves what was there.
func TestCrashOfOneSectorWrittenTwice(t *testing.T) {
	for _, c := range []struct {
		mask uint64
		want []byte
	}{
		{0, full(9)}, {1, full(1)}, {2, padded(2, 2)}, {3, padded(2, 2)}, {4, full(3)}, {5, full(3)}, {7, full(3)},
	} {
		d := New(1)
		wrote(t, d, 0, full(9))
		flushed(t, d)
		wrote(t, d, 0, full(1))
		wrote(t, d, 0, []byte{2, 2})
		wrote(t, d, 0, full(3))
		d.Crash(c.mask, -1, 0)
		checkRead(t, d, 0, c.want)
	}
}

func TestCrashOfMoreThanTheMaskHas(t *testing.T) {
	const waits = 200
	masks := []uint64{0, 1, 2, 1 << 63, 1<<63 | 1, 0xaaaaaaaaaaaaaaaa, 0x00000000ffffffff, 0x0123456789abcdef, math.MaxUint64}
	for _, mask := range masks {
		for _, torn := range []int{-1, 0, 63, 64, 65, 127, 128, 130, 199, 200} {
			d := New(waits)
			for i := range waits {
				wrote(t, d, i, full(byte(i+1)))
			}
			checkCounts(t, d, waits, waits, false)
			d.Crash(mask, torn, 10)
			for i := range waits {
				want := full(0)
				switch kept := mask>>uint(i%64)&1 == 1; {
				case kept && i == torn: // just this one: places aren't counted by 64 again
					want = mixed(10, full(byte(i+1)), full(0))
				case kept:
					want = full(byte(i + 1))
				}
				checkRead(t, d, i, want)
			}
			checkCounts(t, d, waits, 0, false)
		}
	}
}

// cuts: where a write may be cut, and how many of its bytes are then kept.
func cuts() []struct{ cut, kept int } {
	l := []struct{ cut, kept int }{
		{-1, 0}, {-64, 0}, {math.MinInt, 0}, {65, 64}, {128, 64}, {4096, 64}, {math.MaxInt, 64},
	}
	for i := range sectorBytes + 1 {
		l = append(l, struct{ cut, kept int }{i, i})
	}
	return l
}

// Of the torn one the first bytes are there, and behind them what was sure before.
func TestTornIsCut(t *testing.T) {
	for _, c := range cuts() {
		d := New(3)
		old, fresh := rising(100, 64), rising(1, 64)
		wrote(t, d, 1, old)
		flushed(t, d)
		wrote(t, d, 0, full(7))
		wrote(t, d, 1, fresh)
		wrote(t, d, 2, full(8))
		d.Crash(7, 1, c.cut)
		checkRead(t, d, 0, full(7))
		checkRead(t, d, 1, mixed(c.kept, fresh, old))
		checkRead(t, d, 2, full(8))
		checkCounts(t, d, 4, 0, false)
	}
}

// A write has its zeros behind, and they are cut with it.
func TestTornOfAShortWrite(t *testing.T) {
	for _, c := range cuts() {
		d := New(1)
		old := full(200)
		wrote(t, d, 0, old)
		flushed(t, d)
		wrote(t, d, 0, []byte{1, 2, 3})
		d.Crash(1, 0, c.cut)
		checkRead(t, d, 0, mixed(c.kept, padded(1, 2, 3), old))
	}
}

// A torn one that the mask doesn't keep is lost, and no other one is torn for it.
func TestTornThatIsNotKept(t *testing.T) {
	for torn := range 3 {
		for mask := range uint64(8) {
			d := New(3)
			for i := range 3 {
				wrote(t, d, i, full(byte(i+1)))
			}
			d.Crash(mask, torn, 20)
			for i := range 3 {
				want := full(0)
				if mask>>i&1 == 1 {
					want = full(byte(i + 1))
					if i == torn {
						want = mixed(20, want, full(0))
					}
				}
				checkRead(t, d, i, want)
			}
		}
	}
}

func TestTornThatIsNotThere(t *testing.T) {
	for _, torn := range []int{-1, -2, -64, math.MinInt, 2, 3, 64, 65, 1 << 32, math.MaxInt} {
		for _, cut := range []int{-1, 0, 5, 64, 65} {
			d := New(2)
			wrote(t, d, 0, full(1))
			wrote(t, d, 1, full(2))
			d.Crash(3, torn, cut)
			checkRead(t, d, 0, full(1))
			checkRead(t, d, 1, full(2))
		}
	}
}

// Behind a torn one's cut stands what was kept ahead of it in the same crash; what is kept behind it covers it.
func TestTornOfOneSectorWrittenTwice(t *testing.T) {
	for _, c := range []struct {
		mask uint64
		torn int
		want []byte
	}{
		{3, 1, mixed(9, full(2), full(1))},
		{3, 0, full(2)},
		{2, 1, mixed(9, full(2), full(5))},
		{1, 0, mixed(9, full(1), full(5))},
		{1, 1, full(1)},
		{2, 0, full(2)},
	} {
		d := New(1)
		wrote(t, d, 0, full(5))
		flushed(t, d)
		wrote(t, d, 0, full(1))
		wrote(t, d, 0, full(2))
		d.Crash(c.mask, c.torn, 9)
		checkRead(t, d, 0, c.want)
	}
}

func TestCrashOfNothingThatWaits(t *testing.T) {
	for _, torn := range []int{math.MinInt, -1, 0, 1, math.MaxInt} {
		for _, cut := range []int{math.MinInt, -1, 0, 3, 64, 65, math.MaxInt} {
			d := New(1)
			d.Crash(math.MaxUint64, torn, cut)
			checkRead(t, d, 0, full(0))
			wrote(t, d, 0, full(1))
			flushed(t, d)
			d.Crash(math.MaxUint64, torn, cut)
			checkRead(t, d, 0, full(1))
			checkCounts(t, d, 1, 0, false)
		}
	}
}

// What a crash has kept is sure, and what it has lost doesn't come back.
func TestCrashBehindACrash(t *testing.T) {
	d := New(3)
	for i := range 3 {
		wrote(t, d, i, full(byte(i+1)))
	}
	d.Crash(3, 1, 4)
	for _, mask := range []uint64{0, math.MaxUint64} {
		d.Crash(mask, 0, 1)
		checkRead(t, d, 0, full(1))
		checkRead(t, d, 1, padded(2, 2, 2, 2))
		checkRead(t, d, 2, full(0))
	}
	flushed(t, d)
	checkRead(t, d, 2, full(0))
	checkCounts(t, d, 3, 0, false)
}

// Behind a crash it isn't armed any more, whether it was down already or not.
func TestCrashUnarms(t *testing.T) {
	for _, n := range []int{-1, 0, 1, 2, 3, 50} {
		d := New(1)
		d.Arm(n)
		d.Write(0, full(1)) // taken or not
		d.Write(0, full(2))
		before := d.Writes()
		d.Crash(0, -1, 0)
		checkCounts(t, d, before, 0, false)
		for i := range 100 {
			wrote(t, d, 0, full(byte(i)))
		}
		flushed(t, d)
		checkRead(t, d, 0, full(99))
		checkCounts(t, d, before+100, 0, false)
	}
}

func TestArmBehindACrash(t *testing.T) {
	d := New(1)
	d.Arm(1)
	wrote(t, d, 0, full(1))
	d.Crash(1, -1, 0)
	d.Arm(2)
	wrote(t, d, 0, full(2))
	checkCounts(t, d, 2, 1, false)
	wrote(t, d, 0, full(3))
	checkCounts(t, d, 3, 2, true)
	d.Crash(1, -1, 0)
	checkRead(t, d, 0, full(2))
	checkCounts(t, d, 3, 0, false)
}

func TestWhatIsHandedInIsNeitherChangedNorKept(t *testing.T) {
	d := New(2)
	memory := rising(1, 100)
	b := memory[:10] // it has room behind it
	wrote(t, d, 0, b)
	wrote(t, d, 1, memory[20:84])
	want, other := padded(rising(1, 10)...), rising(21, 64)
	if !bytes.Equal(memory, rising(1, 100)) {
		t.Error("changed by Write")
	}
	clear(memory)
	checkRead(t, d, 0, want)
	checkRead(t, d, 1, other)
	flushed(t, d)
	copy(memory, full(9))
	checkRead(t, d, 0, want)
	checkRead(t, d, 1, other)
	d.Crash(0, 0, 0)
	checkRead(t, d, 0, want)
	checkRead(t, d, 1, other)
	if !bytes.Equal(memory[:64], full(9)) {
		t.Error("changed behind Write")
	}
}

func TestWhatIsReadMayBeChanged(t *testing.T) {
	d := New(2)
	spoil := func(at int, want []byte) {
		t.Helper()
		once, _ := d.Read(at)
		again, _ := d.Read(at)
		copy(once, full(99))
		_ = append(once, full(99)...)
		if !bytes.Equal(again, want) {
			t.Error("two answers share memory")
		}
		checkRead(t, d, at, want)
	}
	spoil(0, full(0)) // of what was never written
	wrote(t, d, 0, full(1))
	wrote(t, d, 1, full(2))
	spoil(0, full(1)) // of what waits
	flushed(t, d)
	spoil(0, full(1)) // of what is sure
	spoil(1, full(2))
	b, _ := d.Read(0)
	wrote(t, d, 1, b)
	clear(b)
	checkRead(t, d, 1, full(1))
}

// What was read is told as it was then, whatever is written behind it.
func TestWhatWasReadStays(t *testing.T) {
	d := New(1)
	wrote(t, d, 0, full(1))
	b, _ := d.Read(0)
	wrote(t, d, 0, full(2))
	flushed(t, d)
	c, _ := d.Read(0)
	wrote(t, d, 0, full(3))
	d.Crash(1, 0, 30)
	if !bytes.Equal(b, full(1)) || !bytes.Equal(c, full(2)) {
		t.Error(b, c)
	}
}

func TestDisksGoTheirOwnWay(t *testing.T) {
	a, b := New(2), New(2)
	wrote(t, a, 0, full(1))
	flushed(t, a)
	a.Arm(0)
	checkCounts(t, b, 0, 0, false)
	checkRead(t, b, 0, full(0))
	wrote(t, b, 0, full(2))
	checkRead(t, a, 0, full(1))
	checkCounts(t, a, 1, 0, true)
}

// A plain disk is what the chapter says, spelt out another way: how its sectors are by what is sure and how they are read, each one whole.
type plain struct {
	sure, read [][]byte
	places     []int // of what waits, and
	waiting    [][]byte
	made       int
	down       int // how many writes there are when it is down; below 0: it isn't armed
}

func newPlain(n int) *plain {
	p := &plain{down: -1}
	for range n {
		p.sure, p.read = append(p.sure, full(0)), append(p.read, full(0))
	}
	return p
}

func (p *plain) isDown() bool { return p.down >= 0 && p.made >= p.down }

func (p *plain) write(at int, b []byte) api.Errno {
	switch {
	case at < 0 || at >= len(p.read) || len(b) > sectorBytes:
		return api.ErrBad
	case p.isDown():
		return api.ErrDown
	}
	p.read[at] = padded(b...)
	p.places, p.waiting = append(p.places, at), append(p.waiting, padded(b...))
	p.made++
	return api.OK
}

func (p *plain) flush() api.Errno {
	if p.isDown() {
		return api.ErrDown
	}
	copy(p.sure, p.read)
	p.places, p.waiting = nil, nil
	return api.OK
}

func (p *plain) crash(mask uint64, torn, cut int) {
	for i, at := range p.places {
		bit := uint64(1) << uint(i&63)
		if mask&bit == 0 {
			continue
		}
		next := p.waiting[i]
		if i == torn && cut < sectorBytes {
			next = mixed(max(cut, 0), next, p.sure[at])
		}
		p.sure[at] = next
	}
	copy(p.read, p.sure)
	p.places, p.waiting, p.down = nil, nil, -1
}

// checkAll holds all that a disk tells against a plain one.
func checkAll(t *testing.T, d *Disk, p *plain) {
	t.Helper()
	for at, want := range p.read {
		checkRead(t, d, at, want)
	}
	checkCounts(t, d, p.made, len(p.places), p.isDown())
}

func TestManyCallsAgainstAPlainDisk(t *testing.T) {
	for seed := range int64(60) {
		r := rand.New(rand.NewSource(seed))
		n := 1 + r.Intn(6)
		d, p := New(n), newPlain(n)
		for range 400 {
			switch k := r.Intn(40); {
			case k < 32:
				b := make([]byte, r.Intn(67))
				r.Read(b)
				at := r.Intn(n+2) - 1
				if got, want := d.Write(at, b), p.write(at, b); got != want {
					t.Fatalf("seed %d: Write(%d, %d bytes): %v, want %v", seed, at, len(b), got, want)
				}
			case k < 34 && seed%3 > 0: // a third of them never flush: more than 64 wait
				if got, want := d.Flush(), p.flush(); got != want {
					t.Fatalf("seed %d: Flush: %v, want %v", seed, got, want)
				}
			case k < 36:
				more := r.Intn(120) - 3
				d.Arm(more)
				p.down = p.made + max(more, 0)
			case k == 36 && r.Intn(3) == 0:
				mask, torn, cut := r.Uint64(), r.Intn(len(p.places)+4)-2, r.Intn(70)-3
				d.Crash(mask, torn, cut)
				p.crash(mask, torn, cut)
			}
			checkAll(t, d, p)
		}
		if t.Failed() {
			t.Fatalf("seed %d", seed)
		}
	}
}
