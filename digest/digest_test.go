package digest

import (
	"encoding/hex"
	"math"
	"slices"
	"testing"

	"pacioli/api"
	"pacioli/history"
	"pacioli/sha"
	"pacioli/state"
)

// Every test here is one of P12.1; that none of these calls panics or goes on for ever is P0.

// whole: all of a chain of so many batches is looked at: powers of two, and one less, one more, are among them.
const whole = 18

// outside: numbers of batches that a chain of n hasn't.
func outside(n int) []int {
	return []int{-1, n + 1, -2, n + 2, 2*n + 2, -n - 1, math.MinInt, math.MinInt + 1, math.MinInt32, math.MaxInt32, math.MaxInt - 1, math.MaxInt}
}

// hashes: some that are unlike one another in each byte.
func hashes() []api.Hash {
	var rising, falling, full api.Hash
	for i := range len(rising) {
		rising[i], falling[i], full[i] = byte(i), byte(255-i), 255
	}
	return []api.Hash{{}, rising, falling, full, hash([]byte("log")), hash([]byte("state"))}
}

func TestExample(t *testing.T) {
	h, ok := New().At(0)
	if !ok || h != Of(nil, 0, history.Root(nil), state.None(nil)) {
		t.Fatal(h, ok)
	}
	// Worked out by another program.
	if got := hex.EncodeToString(h[:]); got != "60fa20bf870f9e6cf9ed95347e88511d1b38703b23b8e55a29b0f6f90f863768" {
		t.Fatal(got)
	}
}

func TestOfByteByByte(t *testing.T) {
	counts := []struct {
		n    int
		four []byte
	}{
		{0, []byte{0, 0, 0, 0}},
		{1, []byte{0, 0, 0, 1}},
		{255, []byte{0, 0, 0, 255}},
		{256, []byte{0, 0, 1, 0}},
		{257, []byte{0, 0, 1, 1}},
		{65535, []byte{0, 0, 255, 255}},
		{65536, []byte{0, 1, 0, 0}},
		{1 << 24, []byte{1, 0, 0, 0}},
		{0x01020304, []byte{1, 2, 3, 4}},
		{math.MaxInt32, []byte{127, 255, 255, 255}},
		{math.MaxInt32 + 1, []byte{128, 0, 0, 0}},
		{math.MaxUint32, []byte{255, 255, 255, 255}},
	}
	for _, c := range counts {
		for _, log := range hashes() {
			for _, st := range hashes() {
				all := slices.Concat([]byte{5}, c.four, log[:], st[:])
				tape := &sha.Tape{}
				if got := Of(tape, c.n, log, st); got != hash(all) {
					t.Fatalf("Of(%d, %x, %x): %x", c.n, log, st, got)
				}
				checkNotes(t, tape, all)
				if Of(nil, c.n, log, st) != hash(all) {
					t.Fatal("without a tape", c.n)
				}
			}
		}
	}
}

// Of numbers that four bytes don't hold the chapter says nothing, but that they are told in four.
func TestOfNumbersPastFourBytes(t *testing.T) {
	for _, n := range []int{-1, math.MinInt, math.MinInt32, math.MaxUint32 + 1, math.MaxUint32 + 258, math.MaxInt} {
		log, st := hashes()[1], hashes()[2]
		tape := &sha.Tape{}
		h := Of(tape, n, log, st)
		all := slices.Concat([]byte{5}, fourBytes(n), log[:], st[:])
		checkNotes(t, tape, all)
		if h != hash(all) || Of(nil, n, log, st) != h {
			t.Fatal(n, h)
		}
	}
}

// Both hashes have their places, and the number tells apart.
func TestOfUnlike(t *testing.T) {
	seen := map[api.Hash]int{}
	made := 0
	for n := range 20 {
		for _, log := range hashes() {
			for _, st := range hashes() {
				seen[Of(nil, n, log, st)]++
				made++
			}
		}
	}
	if len(seen) != made {
		t.Fatal(len(seen), "of", made)
	}
}

// batchBytes: of none, of one, of many, and around a block of SHA-256, and one that looks like a leaf's own bytes.
func batchBytes() [][]byte {
	l := [][]byte{nil, {}, {0}, {1}, {255}, {3, 0, 0, 0, 7}, make([]byte, api.MaxBytes), make([]byte, 100000)}
	for n := range 70 {
		b := make([]byte, n)
		for i := range b {
			b[i] = byte(i + n)
		}
		l = append(l, b)
	}
	st := hashes()[1]
	return append(l, slices.Concat([]byte{0}, st[:]))
}

func TestLeafByteByByte(t *testing.T) {
	for _, b := range batchBytes() {
		for _, st := range hashes() {
			all := slices.Concat(st[:], b)
			noted := slices.Concat([]byte{0}, all)
			tape := &sha.Tape{}
			got := Leaf(tape, b, st)
			if got != hash(noted) || got != history.Leaf(nil, all) {
				t.Fatalf("Leaf(%x, %x): %x", b, st, got)
			}
			checkNotes(t, tape, noted)
			if Leaf(nil, b, st) != got {
				t.Fatal("without a tape", len(b))
			}
		}
	}
}

// What was on a tape stays there, ahead of what is noted.
func TestNotedBehindWhatIsThere(t *testing.T) {
	log, st := hashes()[1], hashes()[2]
	tape := &sha.Tape{}
	sha.Of(tape, []byte("ahead"))
	Of(tape, 3, log, st)
	Leaf(tape, []byte{9}, st)
	Leaf(tape, []byte{9}, st)
	Leaf(tape, nil, log)
	Of(tape, 3, log, st)
	of := slices.Concat([]byte{5, 0, 0, 0, 3}, log[:], st[:])
	leaf := slices.Concat([]byte{0}, st[:], []byte{9})
	checkNotes(t, tape, []byte("ahead"), of, leaf, leaf, slices.Concat([]byte{0}, log[:]), of)
}

// Bytes with room behind them: neither they nor what stands there are changed, or kept.
func TestLeafLeavesItsBytes(t *testing.T) {
	room := []byte{1, 2, 3, 4, 5, 6, 7, 8}
	before := slices.Clone(room)
	tape := &sha.Tape{}
	Leaf(tape, room[:3], hashes()[3])
	if !slices.Equal(room, before) {
		t.Fatal("changed:", room)
	}
	st := hashes()[3]
	clear(room)
	checkNotes(t, tape, slices.Concat([]byte{0}, st[:], []byte{1, 2, 3}))
}
