// Package numbers: numbers as bytes, seven bits at a time, the lowest first, as few bytes as can be (P3).
package numbers

import "math/bits"

// Most is how many bytes the longest number has.
const Most = 10

// Append: the numbers behind b. None is below 0.
func Append[N int | uint64](b []byte, numbers ...N) []byte {
	for _, n := range numbers {
		for n > 0x7f {
			b = append(b, byte(n)|0x80)
			n >>= 7
		}
		b = append(b, byte(n))
	}
	return b
}

// Read: the number with which b begins, and how many bytes it has; false: it is cut off, has more bytes than most or bits than 64, or is not as short as can be.
func Read(b []byte, most int) (n uint64, length int, ok bool) {
	for i, c := range b[:min(len(b), most, Most)] {
		low := 7 * i
		n |= uint64(c&0x7f) << low
		if c > 0x7f {
			continue
		}
		if c == 0 && i > 0 || low+bits.Len8(c) > 64 { // without a last 0 it would be the same number
			break
		}
		return n, i + 1, true
	}
	return 0, 0, false
}
