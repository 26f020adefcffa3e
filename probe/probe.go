// Package probe helps the layers' tests: it tells bytes as they are to be, and looks at memory. The program itself calls none of it.
package probe

import (
	"bytes"
	"slices"
)

const spareSize = 64 // bytes of spare room behind roomy ones

// Laid tells what a number's bytes are to be (doc/01-num.md), told in another way than num tells them.
func Laid(n int) []byte {
	switch {
	case n < 1<<6:
		return []byte{byte(n)}
	case n < 1<<14:
		return []byte{0x40 | byte(n>>8), byte(n)}
	case n < 1<<30:
		return []byte{0x80 | byte(n>>24), byte(n >> 16), byte(n >> 8), byte(n)}
	}
	return []byte{0xc0 | byte(n>>56), byte(n >> 48), byte(n >> 40), byte(n >> 32), byte(n >> 24), byte(n >> 16), byte(n >> 8), byte(n)}
}

// Roomy tells bytes that have spare room behind them, full of one byte, and all their memory.
func Roomy(b []byte, spare byte) (part, whole []byte) {
	whole = bytes.Repeat([]byte{spare}, len(b)+spareSize)
	copy(whole, b)
	return whole[:len(b)], whole
}

// Apart tells whether no two of lists share memory, spare room too.
func Apart(lists ...[]byte) bool {
	apart := true
	for i, b := range lists {
		for _, other := range lists[i+1:] {
			before := slices.Clone(other[:cap(other)])
			turn(b)
			apart = apart && bytes.Equal(other[:cap(other)], before)
			turn(b)
		}
	}
	return apart
}

// turn turns all bits of a list's memory, spare room too.
func turn(b []byte) {
	whole := b[:cap(b)]
	for i := range whole {
		whole[i] ^= 0xff
	}
}
