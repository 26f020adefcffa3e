// Package crc sums bytes, so that it tells when some of them are others. See shared/doc/02-crc.md.
package crc

const (
	poly     = 0x04C11DB7
	sumSize  = 4     // bytes of a sum behind what it sums
	joinMost = 65536 // bytes that Join takes behind others
)

// Sum tells the sum of bytes.
func Sum(b []byte) uint32 {
	// The sum of nothing is 0: that is the first remainder with all its bits turned.
	return More(0, b)
}

// More tells the sum of what has a sum, and bytes behind it.
func More(sum uint32, b []byte) uint32 {
	r := ^sum
	for _, c := range b {
		r = come(r, c)
	}
	return ^r
}

// come tells the remainder to which a byte came.
func come(r uint32, c byte) uint32 {
	// A bit that comes is held against the one that falls out of the top: with all eight of them xored in there ahead, it is as if zeros came.
	r ^= uint32(c) << 24
	for range 8 {
		r = up(r)
	}
	return r
}

// up tells the remainder to which a bit of 0 came.
func up(r uint32) uint32 {
	return r<<1 ^ poly&-(r>>31)
}

// Join tells the sum of two things one behind the other, of which the second has n bytes.
//
// Remainders are polynomials, and a bit of 0 that comes multiplies by x. So n bytes behind the first thing make x^8n times its sum, and what the bytes themselves are adds the second one's.
func Join(a, b uint32, n int) uint32 {
	if n < 0 || n > joinMost {
		return 0
	}
	power := uint32(1 << 8)
	timesPower := func(r uint32) uint32 {
		var out uint32
		for i := range 32 {
			out = up(out) ^ r&-(power>>(31-i)&1)
		}
		return out
	}
	for ; n > 0; n /= 2 {
		if n%2 == 1 {
			a = timesPower(a)
		}
		power = timesPower(power)
	}
	return a ^ b
}

// Fix tells bytes with their sum behind them.
func Fix(b []byte) []byte {
	out := make([]byte, len(b)+sumSize)
	laySum(out[copy(out, b):], Sum(b))
	return out
}

// laySum lays a sum in room for four bytes, the highest first.
func laySum(room []byte, sum uint32) {
	for i := range sumSize {
		room[i] = byte(sum >> (8 * (sumSize - 1 - i)))
	}
}

// Right tells whether bytes end with the sum of those ahead of it.
func Right(b []byte) bool {
	body := len(b) - sumSize
	if body < 0 {
		return false
	}
	var last uint32
	for _, c := range b[body:] {
		last = last<<8 | uint32(c)
	}
	return last == Sum(b[:body])
}
