package sha

import (
	"bytes"
	"crypto/sha256"
	"encoding/binary"
	"encoding/hex"
	"math/rand"
	"slices"
	"strings"
	"testing"

	"pacioli/api"
)

// Every test here is one of P2.1; that none of these calls panics is P0.

// bytesOf: n bytes, always the same, no two blocks alike.
func bytesOf(n int) []byte {
	b := make([]byte, n)
	rand.New(rand.NewSource(int64(n))).Read(b)
	return b
}

// noted: what All tells of a tape.
func noted(t *Tape) [][]byte {
	var l [][]byte
	for b := range t.All {
		l = append(l, b)
	}
	return l
}

// checkNoted holds what a tape tells against a list, by All and by Len.
func checkNoted(t *testing.T, tape *Tape, want ...[]byte) {
	t.Helper()
	if got := noted(tape); !slices.EqualFunc(got, want, bytes.Equal) {
		t.Errorf("noted: %q, want %q", got, want)
	}
	if tape.Len() != len(want) {
		t.Errorf("Len: %d, want %d", tape.Len(), len(want))
	}
}

// checkOf holds a hash of parts against that of the library, with a tape and without one.
func checkOf(t *testing.T, parts ...[]byte) {
	t.Helper()
	whole := bytes.Join(parts, nil)
	want := api.Hash(sha256.Sum256(whole))
	tape := &Tape{}
	if got := Of(tape, parts...); got != want {
		t.Errorf("%d bytes in %d parts, with a tape: %x, want %x", len(whole), len(parts), got, want)
	}
	checkNoted(t, tape, whole)
	if got := Of(nil, parts...); got != want {
		t.Errorf("%d bytes in %d parts, without a tape: %x, want %x", len(whole), len(parts), got, want)
	}
}

func TestOfKnownTexts(t *testing.T) {
	cases := []struct{ text, want string }{
		{"abc", "ba7816bf 8f01cfea 414140de 5dae2223 b00361a3 96177a9c b410ff61 f20015ad"},
		{"", "e3b0c442 98fc1c14 9afbf4c8 996fb924 27ae41e4 649b934c a495991b 7852b855"},
		{"abcdbcdecdefdefgefghfghighijhijkijkljklmklmnlmnomnopnopq",
			"248d6a61 d20638b8 e5c02693 0c3e6039 a33ce459 64ff2167 f6ecedd4 19db06c1"},
		{"abcdefghbcdefghicdefghijdefghijkefghijklfghijklmghijklmnhijklmnoijklmnopjklmnopqklmnopqrlmnopqrsmnopqrstnopqrstu",
			"cf5b16a7 78af8380 036ce59e 7b049237 0b249b11 e8f07a51 afac4503 7afee9d1"},
		{strings.Repeat("a", 1000000),
			"cdc76e5c 9914fb92 81a1c7e2 84d73e67 f1809a48 a497200e 046d39cc c7112cd0"},
	}
	for _, c := range cases {
		h := Of(nil, []byte(c.text))
		if got := hex.EncodeToString(h[:]); got != strings.ReplaceAll(c.want, " ", "") {
			t.Errorf("Of(%.60q): %s, want %s", c.text, got, c.want)
		}
	}
}

// All lengths up to five blocks: among them each at which the last block is just full, or its length has no room.
func TestOfEveryLength(t *testing.T) {
	for n := range 5*64 + 2 {
		checkOf(t, bytesOf(n))
		checkOf(t, make([]byte, n))
		checkOf(t, bytes.Repeat([]byte{0xff}, n))
	}
	for _, n := range []int{4095, 4096, 4097, 65535, 65536, 1 << 20} {
		checkOf(t, bytesOf(n))
	}
}

// The length in bits goes above 32 of them at 2^29 bytes: that much isn't hashed here, only laid behind.
func TestPaddingTellsGreatLengths(t *testing.T) {
	for _, n := range []int{0, 1, 31, 32, 8191, 8192, 1<<29 - 1, 1 << 29, 1<<29 + 3, 1<<31 - 1} {
		pad := padding(n)
		if (n+len(pad))%64 != 0 || pad[0] != 0x80 {
			t.Errorf("behind %d bytes: %x", n, pad)
		}
		tail := pad[len(pad)-8:]
		if got := binary.BigEndian.Uint64(tail); got != 8*uint64(n) {
			t.Errorf("behind %d bytes: length %d", n, got)
		}
	}
}

func TestOfNothing(t *testing.T) {
	checkOf(t)
	checkOf(t, nil)
	checkOf(t, []byte{})
	checkOf(t, nil, []byte{}, nil)
}

func TestOfPartsCutAnywhere(t *testing.T) {
	for _, n := range []int{1, 2, 55, 56, 63, 64, 65, 130} {
		b := bytesOf(n)
		for i := range n + 1 {
			checkOf(t, b[:i], b[i:])
			checkOf(t, nil, b[:i], []byte{}, b[i:], nil)
			half := i / 2
			checkOf(t, b[:half], b[half:i], b[i:])
		}
	}
	var single [][]byte
	for _, c := range bytesOf(200) {
		single = append(single, []byte{c})
	}
	checkOf(t, single...)
}

func TestOfPartsInOrder(t *testing.T) {
	a, b := []byte("ab"), []byte("c")
	if Of(nil, a, b) != Of(nil, []byte("abc")) || Of(nil, b, a) != Of(nil, []byte("cab")) {
		t.Error("parts aren't one behind the other")
	}
	if Of(nil, a, b) == Of(nil, b, a) {
		t.Error("their order doesn't count")
	}
	checkOf(t, a, a, a)
}

func TestNilTape(t *testing.T) {
	var tape *Tape
	Of(tape, []byte("abc"))
	checkNoted(t, tape)
	tape.All(func([]byte) bool {
		t.Error("yield of nil is called")
		return true
	})
	tape.All(nil)
}

func TestNewTapeIsEmpty(t *testing.T) {
	checkNoted(t, &Tape{})
	(&Tape{}).All(nil)
}

func TestNotesInOrder(t *testing.T) {
	tape, other := &Tape{}, &Tape{}
	var want [][]byte
	for i := range 100 {
		b := bytesOf((i * 37) % 150)
		Of(tape, b[:len(b)/3], nil, b[len(b)/3:])
		Of(nil, []byte("on no tape"))
		Of(other, []byte("on another one"))
		want = append(want, b)
		checkNoted(t, tape, want...)
	}
	if other.Len() != 100 {
		t.Error("the other one's:", other.Len())
	}
}

// Each call is noted once, as one, be it of nothing, or of what was noted before.
func TestNotesOneACall(t *testing.T) {
	tape := &Tape{}
	Of(tape, []byte("x"), []byte("y"))
	Of(tape)
	Of(tape, []byte("xy"))
	Of(tape, nil, []byte{})
	Of(tape, []byte("xy"))
	checkNoted(t, tape, []byte("xy"), nil, []byte("xy"), nil, []byte("xy"))
}

func TestAllTillYieldSaysFalse(t *testing.T) {
	tape := &Tape{}
	texts := [][]byte{[]byte("a"), []byte("b"), []byte("c"), []byte("d")}
	for _, b := range texts {
		Of(tape, b)
	}
	for stop := 1; stop <= len(texts); stop++ {
		var got [][]byte
		tape.All(func(b []byte) bool {
			got = append(got, b)
			return len(got) < stop
		})
		if !slices.EqualFunc(got, texts[:stop], bytes.Equal) {
			t.Errorf("till %d: %q", stop, got)
		}
	}
	checkNoted(t, tape, texts...)
}

func TestAllWithoutYield(t *testing.T) {
	tape := &Tape{}
	Of(tape, []byte("a"))
	tape.All(nil)
	checkNoted(t, tape, []byte("a"))
}

func TestAllWhileMoreIsNoted(t *testing.T) {
	tape := &Tape{}
	Of(tape, []byte("a"))
	Of(tape, []byte("b"))
	var got []byte
	for b := range tape.All {
		got = append(got, b...)
		Of(tape, []byte("more"))
	}
	if string(got) != "ab" {
		t.Errorf("told: %q", got)
	}
	checkNoted(t, tape, []byte("a"), []byte("b"), []byte("more"), []byte("more"))
}

func TestNotesStayWhenPartsChange(t *testing.T) {
	tape := &Tape{}
	a, b := []byte("first"), []byte("second")
	parts := [][]byte{a, b}
	Of(tape, a)
	Of(tape, parts...)
	Of(tape, nil, b, nil)
	a[0], b[0], parts[0], parts[1] = 'X', 'X', nil, nil
	checkNoted(t, tape, []byte("first"), []byte("firstsecond"), []byte("second"))
}

func TestNotesStayWhenWhatIsToldChanges(t *testing.T) {
	tape := &Tape{}
	Of(tape, []byte("first"))
	Of(tape, []byte("second"))
	for b := range tape.All {
		b[0] = 'X'
		b = append(b, "more"...)
		b[1] = 'Y'
	}
	checkNoted(t, tape, []byte("first"), []byte("second"))
	once, again := noted(tape), noted(tape)
	once[0][0] = 'X'
	if string(again[0]) != "first" {
		t.Error("two answers share memory")
	}
}

func TestPartsStayAsTheyWere(t *testing.T) {
	memory := []byte("firstsecond and what is behind")
	was := bytes.Clone(memory)
	parts := [][]byte{memory[:5], memory[5:11]} // both have room behind them
	kept := slices.Clone(parts)
	Of(&Tape{}, parts...)
	Of(nil, parts[1], parts[0])
	Of(nil, memory[:3])
	if !bytes.Equal(memory, was) {
		t.Errorf("bytes: %q", memory)
	}
	if !slices.EqualFunc(parts, kept, bytes.Equal) || len(parts) != 2 {
		t.Errorf("list: %q", parts)
	}
}
