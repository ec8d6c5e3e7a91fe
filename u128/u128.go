// Package u128 is layer 1: see shared/doc/01-u128.md.
package u128

import (
	"cmp"
	"math"
	"math/bits"

	"pacioli/api"
)

const (
	half   = 8        // bytes of Hi, and of Lo
	whole  = 2 * half // bytes of a number
	digits = 39       // of Max, which has the most
)

// Max: the greatest one.
func Max() api.Num { return api.Num{Hi: math.MaxUint64, Lo: math.MaxUint64} }

// Of: a small one.
func Of(n uint64) api.Num { return api.Num{Lo: n} }

// Add: some, together (0 of none); false: they are too great (0 then).
func Add(l ...api.Num) (api.Num, bool) {
	var sum api.Num
	for _, a := range l {
		lo, carry := bits.Add64(sum.Lo, a.Lo, 0)
		hi, over := bits.Add64(sum.Hi, a.Hi, carry)
		if over != 0 {
			return api.Num{}, false
		}
		sum = api.Num{Hi: hi, Lo: lo}
	}
	return sum, true
}

// Sub: one less another; false: that is greater (0 then).
func Sub(a, b api.Num) (api.Num, bool) {
	lo, borrow := bits.Sub64(a.Lo, b.Lo, 0)
	hi, below := bits.Sub64(a.Hi, b.Hi, borrow)
	if below != 0 {
		return api.Num{}, false
	}
	return api.Num{Hi: hi, Lo: lo}, true
}

// Compare: -1, 0, 1: is a less than b, the same, or greater?
func Compare(a, b api.Num) int {
	if c := cmp.Compare(a.Hi, b.Hi); c != 0 {
		return c
	}
	return cmp.Compare(a.Lo, b.Lo)
}

// Least: the least one of some; the greatest one of none.
func Least(l ...api.Num) api.Num {
	least := Max()
	for _, a := range l {
		if Compare(a, least) < 0 {
			least = a
		}
	}
	return least
}

// Bytes: sixteen, the highest first.
func Bytes(a api.Num) []byte {
	b := make([]byte, whole)
	for i := range half {
		shift := 8 * (half - 1 - i)
		b[i] = byte(a.Hi >> shift)
		b[half+i] = byte(a.Lo >> shift)
	}
	return b
}

// Read: the one of sixteen bytes; false: there are fewer, or more (0 then).
func Read(b []byte) (api.Num, bool) {
	if len(b) != whole {
		return api.Num{}, false
	}
	var a api.Num
	for i := range half {
		a.Hi = a.Hi<<8 | uint64(b[i])
		a.Lo = a.Lo<<8 | uint64(b[half+i])
	}
	return a, true
}

// Print: its decimal digits.
func Print(a api.Num) string {
	var text [digits]byte
	at := len(text)
	for at == len(text) || a != (api.Num{}) { // 0 has a digit, too
		var last uint64
		a, last = cutDigit(a)
		at--
		text[at] = byte('0' + last)
	}
	return string(text[at:])
}

// cutDigit: a number without its last decimal digit; that digit.
func cutDigit(a api.Num) (api.Num, uint64) {
	// What is left of Hi is below ten, as Div64 needs it.
	lo, last := bits.Div64(a.Hi%10, a.Lo, 10)
	return api.Num{Hi: a.Hi / 10, Lo: lo}, last
}

// Parse: the number of digits; false: there are none, other signs, noughts ahead, or it is too great (0 then).
func Parse(s string) (api.Num, bool) {
	if s == "" || s[0] == '0' && len(s) > 1 {
		return api.Num{}, false
	}
	var a api.Num
	for _, r := range s {
		if r < '0' || r > '9' {
			return api.Num{}, false
		}
		more, ok := addDigit(a, uint64(r-'0'))
		if !ok {
			return api.Num{}, false
		}
		a = more
	}
	return a, true
}

// addDigit: a number with one more decimal digit behind; false: that is too great.
func addDigit(a api.Num, digit uint64) (api.Num, bool) {
	over, hi := bits.Mul64(a.Hi, 10)
	if over != 0 {
		return api.Num{}, false
	}
	carry, lo := bits.Mul64(a.Lo, 10)
	return Add(api.Num{Hi: hi}, api.Num{Hi: carry, Lo: lo}, Of(digit))
}

// Bit: of a number, the highest being 0; 0, if there is no such one.
func Bit(a api.Num, i int) int {
	if i < 0 || i >= api.Bits {
		return 0
	}
	word := a.Hi
	if i >= api.Bits/2 {
		word = a.Lo
	}
	return int(word >> (api.Bits/2 - 1 - i%(api.Bits/2)) & 1)
}
