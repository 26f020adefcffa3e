// Package probe helps the layers' tests: it tells bytes as they are to be, schemas, changes, states and what is none, disks with files, and looks at memory. The program itself calls none of it.
package probe

import "slices"

const spareSize = 64 // items of spare room behind a roomy list

// Laid tells what a number's bytes are to be (doc/01-num.md), told in another way than num tells them.
func Laid(n int) []byte {
	switch {
	case n < 1<<6:
		return []byte{byte(n)}
	case n < 1<<14:
		return []byte{0x40 | byte(n>>8), byte(n)}
	case n < 1<<30:
		return []byte{0x80 | byte(n>>24), byte(n >> 16), byte(n >> 8), byte(n)}
	}
	return []byte{0xc0 | byte(n>>56), byte(n >> 48), byte(n >> 40), byte(n >> 32), byte(n >> 24), byte(n >> 16), byte(n >> 8), byte(n)}
}

// Roomy tells a list that has spare room behind it, full of one item, and all its memory.
func Roomy[T any](l []T, spare T) (part, whole []T) {
	whole = slices.Concat(l, slices.Repeat([]T{spare}, spareSize))
	return whole[:len(l)], whole
}

// Apart tells whether no two of lists share memory, spare room too.
func Apart[T any](lists ...[]T) bool {
	for i, l := range lists {
		for _, other := range lists[i+1:] {
			if holds(l, other) || holds(other, l) {
				return false
			}
		}
	}
	return true
}

// holds tells whether another list begins in a list's memory: of two that share some, one does so in the other one's.
func holds[T any](l, other []T) bool {
	l, other = l[:cap(l)], other[:cap(other)]
	for i := range l {
		if len(other) > 0 && &l[i] == &other[0] {
			return true
		}
	}
	return false
}
