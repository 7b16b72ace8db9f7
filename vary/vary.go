// Package vary: numbers in as few bytes as they need.
package vary

import "packtrain/api"

const (
	bits = 7         // of the number in each byte
	more = 1 << bits // says that another byte follows
	last = 9         // place of the last byte that 64 bits may need
	top  = 1         // the greatest last byte: the one bit that nine bytes leave
)

// Put is a number, seven bits a byte, the lowest first, each byte but the last one with 128 more.
func Put(n uint64) string {
	b := make([]byte, 0, last+1)
	for n >= more {
		b = append(b, byte(n)|more)
		n >>= bits
	}
	return string(append(b, byte(n)))
}

// Get is the number that a text begins with, and how many bytes it has.
// Byte by byte: ErrLimit: the tenth one is above 1; ErrForm: it is 0, and not the first one; ErrMissing: the text ends ahead of a byte below 128.
func Get(s string) (uint64, int, error) {
	var n uint64
	for i := range len(s) {
		c := s[i]
		if i == last && c > top {
			return 0, 0, api.ErrLimit
		}
		// A nought on top adds nothing: without it the number has fewer bytes, and there is just one way to write it.
		if i > 0 && c == 0 {
			return 0, 0, api.ErrForm
		}
		n |= uint64(c%more) << (bits * i)
		if c < more {
			return n, i + 1, nil
		}
	}
	return 0, 0, api.ErrMissing
}

// Int is a number as Get has it, of no more than so much. Get's errors; ErrRange: it is more.
func Int(s string, most int) (int, int, error) {
	n, size, err := Get(s)
	if err != nil {
		return 0, 0, err
	}
	// Below 0, most would turn into a great number of 64 bits.
	if most < 0 || n > uint64(most) {
		return 0, 0, api.ErrRange
	}
	return int(n), size, nil
}

// Zig is a number with its sign as the lowest bit: 0, -1, 1, -2, 2 are 0, 1, 2, 3, 4.
func Zig(n int) uint64 {
	if n < 0 {
		// ^n is -n - 1, and, unlike -n, is there for the least number, too.
		return 2*uint64(^n) + 1
	}
	return 2 * uint64(n)
}

// Zag is the other way round.
func Zag(n uint64) int {
	half := int(n / 2)
	if n%2 == 1 {
		return ^half
	}
	return half
}
