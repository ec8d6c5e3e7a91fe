package u128

import (
	"bytes"
	"math"
	"math/big"
	"math/rand"
	"slices"
	"strings"
	"testing"

	"pacioli/api"
)

// Every test here is one of P1.1; that none of these calls panics is P0.

const maxText = "340282366920938463463374607431768211455"

var zero = api.Num{}

// limit is 2^128: the least number that is too great.
func limit() *big.Int { return new(big.Int).Lsh(big.NewInt(1), 128) }

// toBig works from the words alone, so that what is tested isn't its own measure.
func toBig(a api.Num) *big.Int {
	n := new(big.Int).SetUint64(a.Hi)
	return n.Lsh(n, 64).Or(n, new(big.Int).SetUint64(a.Lo))
}

// samples: the edges of both words, all powers of two and of ten with their neighbours, and some others, always the same.
func samples() []api.Num {
	var l []api.Num
	words := []uint64{0, 1, 2, 9, 10, 11, 1<<32 - 1, 1 << 32, 1 << 63, 1<<63 - 1, math.MaxUint64 - 1, math.MaxUint64}
	for _, hi := range words {
		for _, lo := range words {
			l = append(l, api.Num{Hi: hi, Lo: lo})
		}
	}
	base := func(b int64, n int) {
		p := big.NewInt(1)
		for range n {
			for _, d := range []int64{-1, 0, 1} {
				l = append(l, fromBig(new(big.Int).Add(p, big.NewInt(d))))
			}
			p.Mul(p, big.NewInt(b))
		}
	}
	base(2, 128)
	base(10, 39)
	r := rand.New(rand.NewSource(1))
	for range 200 {
		l = append(l, api.Num{Hi: r.Uint64() >> r.Intn(64), Lo: r.Uint64() >> r.Intn(64)})
	}
	return l
}

func fromBig(n *big.Int) api.Num {
	low := new(big.Int).And(n, new(big.Int).SetUint64(math.MaxUint64))
	return api.Num{Hi: new(big.Int).Rsh(n, 64).Uint64(), Lo: low.Uint64()}
}

func TestMaxIsAllBits(t *testing.T) {
	want := new(big.Int).Sub(limit(), big.NewInt(1))
	if toBig(Max()).Cmp(want) != 0 {
		t.Fatal(Max())
	}
}

func TestOfIsTheLowWord(t *testing.T) {
	for _, n := range []uint64{0, 1, 255, 1 << 63, math.MaxUint64} {
		if got := Of(n); got != (api.Num{Lo: n}) {
			t.Errorf("Of(%d): %v", n, got)
		}
	}
}

// checkAdd holds a sum against big numbers.
func checkAdd(t *testing.T, l ...api.Num) {
	t.Helper()
	sum := new(big.Int)
	for _, a := range l {
		sum.Add(sum, toBig(a))
	}
	want, fits := zero, sum.Cmp(limit()) < 0
	if fits {
		want = fromBig(sum)
	}
	if got, ok := Add(l...); ok != fits || got != want {
		t.Errorf("Add(%v): %v, %v; want %v, %v", l, got, ok, want, fits)
	}
}

func TestAddOfAnyNumber(t *testing.T) {
	checkAdd(t)
	l := samples()
	for i, a := range l {
		checkAdd(t, a)
		for _, b := range l {
			checkAdd(t, a, b)
		}
		checkAdd(t, a, l[(i*7+3)%len(l)], l[(i*31+5)%len(l)])
	}
}

func TestAddAtMaxAndAbove(t *testing.T) {
	almost := api.Num{Hi: math.MaxUint64, Lo: math.MaxUint64 - 1}
	checkAdd(t, Max(), zero)
	checkAdd(t, almost, Of(1))
	checkAdd(t, almost, Of(2))
	checkAdd(t, Max(), Of(1))
	checkAdd(t, Of(1), Max())
	checkAdd(t, Max(), Max())
	checkAdd(t, api.Num{Hi: 1 << 63}, api.Num{Hi: 1 << 63})
	checkAdd(t, api.Num{Hi: math.MaxUint64}, Of(math.MaxUint64))
	// Behind an overflow the sum's lowest 128 bits may be small again: it is still too great.
	checkAdd(t, Max(), Of(1), Of(1))
	checkAdd(t, Max(), Max(), Of(2))
	checkAdd(t, Of(1), Of(2), Of(3), Max(), zero)
	checkAdd(t, slices.Repeat([]api.Num{{Hi: 1 << 60}}, 15)...)
	checkAdd(t, slices.Repeat([]api.Num{{Hi: 1 << 60}}, 16)...)
	checkAdd(t, slices.Repeat([]api.Num{Of(math.MaxUint64)}, 1000)...)
}

func TestSub(t *testing.T) {
	l := samples()
	for _, a := range l {
		for _, b := range l {
			d := new(big.Int).Sub(toBig(a), toBig(b))
			want, fits := zero, d.Sign() >= 0
			if fits {
				want = fromBig(d)
			}
			if got, ok := Sub(a, b); ok != fits || got != want {
				t.Errorf("Sub(%v, %v): %v, %v; want %v, %v", a, b, got, ok, want, fits)
			}
		}
	}
}

func TestSubBelowZero(t *testing.T) {
	pairs := [][2]api.Num{
		{zero, Of(1)}, {zero, Max()}, {Of(1), Of(2)},
		{Of(math.MaxUint64), {Hi: 1}},
		{{Hi: 1}, {Hi: 1, Lo: 1}},
		{{Hi: 5, Lo: math.MaxUint64}, {Hi: 6}},
	}
	for _, p := range pairs {
		if got, ok := Sub(p[0], p[1]); ok || got != zero {
			t.Errorf("Sub(%v, %v): %v, %v", p[0], p[1], got, ok)
		}
	}
	for _, a := range []api.Num{zero, Of(1), Max(), {Hi: 1}} {
		if got, ok := Sub(a, a); !ok || got != zero {
			t.Errorf("Sub(%v, %v): %v, %v", a, a, got, ok)
		}
	}
}

func TestCompare(t *testing.T) {
	l := samples()
	for _, a := range l {
		for _, b := range l {
			if got, want := Compare(a, b), toBig(a).Cmp(toBig(b)); got != want {
				t.Errorf("Compare(%v, %v): %d, want %d", a, b, got, want)
			}
		}
	}
	// The high word weighs more, whatever the low ones are.
	if Compare(api.Num{Hi: 1}, Of(math.MaxUint64)) != 1 || Compare(Of(math.MaxUint64), api.Num{Hi: 1}) != -1 {
		t.Error("the high word doesn't come first")
	}
}

func TestLeast(t *testing.T) {
	if Least() != Max() {
		t.Error("of none:", Least())
	}
	one, great := Of(1), api.Num{Hi: 1}
	cases := []struct {
		l    []api.Num
		want api.Num
	}{
		{[]api.Num{Max()}, Max()},
		{[]api.Num{zero}, zero},
		{[]api.Num{one, great}, one},
		{[]api.Num{great, one}, one},
		{[]api.Num{one, one}, one},
		{[]api.Num{great, one, zero, Max()}, zero},
		{[]api.Num{zero, one, great}, zero},
		{[]api.Num{great, Of(math.MaxUint64)}, Of(math.MaxUint64)},
		{[]api.Num{{Hi: 7, Lo: 3}, {Hi: 7, Lo: 2}, {Hi: 7, Lo: 4}}, api.Num{Hi: 7, Lo: 2}},
	}
	for _, c := range cases {
		if got := Least(c.l...); got != c.want {
			t.Errorf("Least(%v): %v, want %v", c.l, got, c.want)
		}
	}
	l := samples()
	want := slices.MinFunc(l, func(a, b api.Num) int { return toBig(a).Cmp(toBig(b)) })
	if got := Least(l...); got != want {
		t.Error("of all:", got)
	}
}

func TestBytesHighestFirst(t *testing.T) {
	a := api.Num{Hi: 0x0102030405060708, Lo: 0x090a0b0c0d0e0f10}
	want := []byte{1, 2, 3, 4, 5, 6, 7, 8, 9, 10, 11, 12, 13, 14, 15, 16}
	if got := Bytes(a); !bytes.Equal(got, want) {
		t.Error(got)
	}
	for _, a := range samples() {
		want := toBig(a).FillBytes(make([]byte, 16))
		if got := Bytes(a); !bytes.Equal(got, want) {
			t.Errorf("Bytes(%v): %v, want %v", a, got, want)
		}
		if got, ok := Read(want); !ok || got != a {
			t.Errorf("Read(%v): %v, %v; want %v", want, got, ok, a)
		}
	}
}

func TestBytesAreNewMemory(t *testing.T) {
	first := Bytes(Of(7))
	first[15] = 9
	if got := Bytes(Of(7)); got[15] != 7 {
		t.Error(got)
	}
}

func TestReadOfOtherLengths(t *testing.T) {
	for n := range 40 {
		b := bytes.Repeat([]byte{0xff}, n)
		got, ok := Read(b)
		if n == 16 {
			if !ok || got != Max() {
				t.Error("of sixteen:", got, ok)
			}
			continue
		}
		if ok || got != zero {
			t.Errorf("of %d bytes: %v, %v", n, got, ok)
		}
	}
	if got, ok := Read(nil); ok || got != zero {
		t.Error("of nil:", got, ok)
	}
	// What counts is how long it is, not how long it could be.
	if got, ok := Read(make([]byte, 15, 16)); ok || got != zero {
		t.Error("of fifteen, with room for one:", got, ok)
	}
}

func TestArgumentsStayAsTheyWere(t *testing.T) {
	b := []byte{1, 2, 3, 4, 5, 6, 7, 8, 9, 10, 11, 12, 13, 14, 15, 16}
	was := bytes.Clone(b)
	a, _ := Read(b)
	b2 := Bytes(a)
	b2[0] = 99
	if !bytes.Equal(b, was) {
		t.Error("Read:", b)
	}
	l := []api.Num{Of(3), Max(), Of(1)}
	kept := slices.Clone(l)
	Add(l...)
	Least(l...)
	if !slices.Equal(l, kept) {
		t.Error("Add, Least:", l)
	}
}

func TestPrint(t *testing.T) {
	cases := []struct {
		a    api.Num
		want string
	}{
		{zero, "0"}, {Of(1), "1"}, {Of(9), "9"}, {Of(10), "10"}, {Of(100), "100"},
		{Of(math.MaxUint64), "18446744073709551615"},
		{api.Num{Hi: 1}, "18446744073709551616"},
		{Max(), maxText},
	}
	for _, c := range cases {
		if got := Print(c.a); got != c.want {
			t.Errorf("Print(%v): %q, want %q", c.a, got, c.want)
		}
	}
	for _, a := range samples() {
		if got, want := Print(a), toBig(a).String(); got != want {
			t.Errorf("Print(%v): %q, want %q", a, got, want)
		}
	}
}

func TestParseOfWhatPrintTells(t *testing.T) {
	for _, a := range samples() {
		s := toBig(a).String()
		if got, ok := Parse(s); !ok || got != a {
			t.Errorf("Parse(%q): %v, %v; want %v", s, got, ok, a)
		}
	}
}

func TestParseOfNoPrint(t *testing.T) {
	wrong := []string{
		"", " ", "00", "01", "000", "0123", "+1", "-1", "-0", "+", "-",
		" 1", "1 ", "1\n", "1 2", "1_000", "1,000", "1.0", "1e3", "0x10", "a", "12a", "a12", "/", ":",
		"\x00", "1\x00", "\xff", "1\xff", "\xb1", "1\x80\x80",
		"\u0661", "1\u0661", "\uff11", "\u00b2", "\ufffd", "\U0001d7cf", // digits, and others, that aren't decimal ones of ASCII
		"340282366920938463463374607431768211456", // one above Max
		"340282366920938463463374607431768211460",
		"340282366920938463463374607431768211465",
		"999999999999999999999999999999999999999",
		"3402823669209384634633746074317682114550",
		"1000000000000000000000000000000000000000",
		"0" + maxText, maxText + " ", maxText + "x", "x" + maxText,
		strings.Repeat("0", 40), strings.Repeat("9", 100), strings.Repeat("1", 1<<16), strings.Repeat("x", 1<<16),
	}
	for _, s := range wrong {
		if got, ok := Parse(s); ok || got != zero {
			t.Errorf("Parse(%.60q): %v, %v", s, got, ok)
		}
	}
}

func TestParseOfEverySign(t *testing.T) {
	for c := range 256 {
		s := string([]byte{byte(c)})
		digit := c >= '0' && c <= '9'
		want := zero
		if digit {
			want = Of(uint64(c - '0'))
		}
		if got, ok := Parse(s); ok != digit || got != want {
			t.Errorf("Parse(%q): %v, %v", s, got, ok)
		}
		if got, ok := Parse("4" + s); ok != digit || digit && got != Of(uint64(40+c-'0')) || !digit && got != zero {
			t.Errorf("Parse(%q): %v, %v", "4"+s, got, ok)
		}
	}
}

func TestParseAroundMax(t *testing.T) {
	n := new(big.Int).Sub(limit(), big.NewInt(30))
	for range 60 {
		fits := n.Cmp(limit()) < 0
		want := zero
		if fits {
			want = fromBig(n)
		}
		if got, ok := Parse(n.String()); ok != fits || got != want {
			t.Errorf("Parse(%v): %v, %v", n, got, ok)
		}
		n.Add(n, big.NewInt(1))
	}
}

func TestBit(t *testing.T) {
	for _, a := range samples() {
		n := toBig(a)
		for i := range api.Bits {
			if got, want := Bit(a, i), int(n.Bit(api.Bits-1-i)); got != want {
				t.Errorf("Bit(%v, %d): %d, want %d", a, i, got, want)
			}
		}
	}
	if Bit(api.Num{Hi: 1 << 63}, 0) != 1 || Bit(Of(1), 127) != 1 || Bit(api.Num{Hi: 1}, 63) != 1 || Bit(Of(1<<63), 64) != 1 {
		t.Error("the highest isn't 0")
	}
}

func TestBitOfOthers(t *testing.T) {
	for _, i := range []int{-1, -2, -63, -64, -65, -127, -128, -129, 128, 129, 191, 192, 255, 256, 1 << 32, math.MaxInt, math.MinInt} {
		if got := Bit(Max(), i); got != 0 {
			t.Errorf("Bit(Max, %d): %d", i, got)
		}
	}
}
