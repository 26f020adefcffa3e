// Package num lays numbers and texts as bytes, each in one form alone. See shared/doc/01-num.md.
package num

import (
	"math/bits"

	"gemel/api"
)

// Put tells bytes with a number behind them; without it, if it is no number that can be laid.
func Put(b []byte, n int) []byte {
	size := Size(n)
	out := make([]byte, len(b)+size)
	room := out[copy(out, b):]
	for i := range size {
		room[size-1-i] = byte(n >> (8 * i))
	}
	if size > 0 {
		room[0] |= mark(size)
	}
	return out
}

// mark tells the two highest bits of a number's first byte, which say that it has so many bytes.
func mark(size int) byte {
	return byte(bits.TrailingZeros(uint(size))) << 6
}

// Size tells how many bytes a number has; 0, if it can't be laid.
func Size(n int) int {
	size := 1
	switch {
	case n < 0 || n > api.MaxNum:
		return 0
	case n >= 1<<30:
		size *= 2
		fallthrough
	case n >= 1<<14:
		size *= 2
		fallthrough
	case n >= 1<<6:
		size *= 2
	}
	return size
}

// Get reads the number with which bytes begin, and tells how many bytes it has.
func Get(b []byte) (int, int, api.Errno) {
	if len(b) == 0 {
		return 0, 0, api.ErrCut
	}
	size := 1 << (b[0] >> 6)
	if len(b) < size {
		return 0, 0, api.ErrCut
	}
	n := int(b[0] & 0x3f)
	for _, c := range b[1:size] {
		n = n<<8 | int(c)
	}
	if Size(n) != size {
		return 0, 0, api.ErrForm
	}
	return n, size, api.OK
}

// PutText tells bytes with a text behind them.
func PutText(b []byte, s string) []byte {
	return append(Put(b, len(s)), s...)
}

// GetText reads the text with which bytes begin, and tells how many bytes that is in all.
func GetText(b []byte, most int) (string, int, api.Errno) {
	n, size, e := Get(b)
	switch {
	case e != api.OK:
		return "", 0, e
	case n > most:
		return "", 0, api.ErrLong
	case n > len(b)-size:
		return "", 0, api.ErrCut
	}
	return string(b[size : size+n]), size + n, api.OK
}

// All reads the numbers of which bytes are made, one behind the other.
func All(b []byte) ([]int, api.Errno) {
	var out []int
	fault := api.OK
numbers:
	for len(b) > 0 {
		n, size, e := Get(b)
		switch e {
		case api.OK:
			out = append(out, n)
			b = b[size:]
		default:
			out, fault = nil, e
			break numbers
		}
	}
	return out, fault
}
