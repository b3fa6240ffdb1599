// Package number has numbers as bytes, the highest byte first: as they stand in addresses and heads.
package number

import "math/bits"

// Unsigned is the kinds of numbers that are laid and taken.
type Unsigned interface {
	~uint8 | ~uint16 | ~uint32
}

// Lay is the bytes of all numbers of l, one number behind the other.
func Lay[N Unsigned](l ...N) string {
	var b []byte
	for _, n := range l {
		for i := range width[N]() {
			b = append(b, byte(n>>place[N](i)))
		}
	}
	return string(b)
}

// At is the number whose bytes stand in s from i on: 0, if they are not all there.
func At[N Unsigned](s string, i int) N {
	if i < 0 || i > len(s)-width[N]() {
		return 0
	}
	n := N(0)
	for k := range width[N]() {
		n |= N(s[i+k]) << place[N](k)
	}
	return n
}

// width is how many bytes a number of its kind has.
func width[N Unsigned]() int {
	return bits.Len32(uint32(^N(0))) / 8
}

// place is by how many bits the i-th byte of a number is turned upwards.
func place[N Unsigned](i int) int {
	return 8 * (width[N]() - 1 - i)
}
