package number_test

import (
	"math"
	"testing"

	"transom/number"
)

// port is a kind of its own, of 16 bits.
type port uint16

// P4.2, P5.1: numbers of each size, and kinds of one's own, are laid with the highest byte first, one behind the other.
func TestLay(t *testing.T) {
	for _, x := range []struct{ got, want string }{
		{number.Lay[uint8](), ""},
		{number.Lay[uint32](), ""},
		{number.Lay(uint8(0)), "\x00"},
		{number.Lay(uint8(0x12)), "\x12"},
		{number.Lay(uint8(math.MaxUint8)), "\xff"},
		{number.Lay(uint16(1)), "\x00\x01"},
		{number.Lay(uint16(0x3456)), "\x34\x56"},
		{number.Lay(port(0x8000)), "\x80\x00"},
		{number.Lay(uint32(0x789abcde)), "\x78\x9a\xbc\xde"},
		{number.Lay(uint32(math.MaxUint32)), "\xff\xff\xff\xff"},
		{number.Lay(uint8(1), 2, 3), "\x01\x02\x03"},
		{number.Lay(uint16(1), 0x0203), "\x00\x01\x02\x03"},
		{number.Lay(uint32(0x01020304), 5), "\x01\x02\x03\x04\x00\x00\x00\x05"},
	} {
		if x.got != x.want {
			t.Errorf("%x, not %x", x.got, x.want)
		}
	}
}

// P4.2, P5.2: a number is read of its own bytes alone, wherever they stand.
func TestAt(t *testing.T) {
	s := "\x80\x12\x34\x56\x78\x9a"
	for i, want := range []uint8{0x80, 0x12, 0x34, 0x56, 0x78, 0x9a} {
		if got := number.At[uint8](s, i); got != want {
			t.Errorf("8 bits at %d: %x", i, got)
		}
	}
	for i, want := range []uint16{0x8012, 0x1234, 0x3456, 0x5678, 0x789a} {
		if got := number.At[uint16](s, i); got != want {
			t.Errorf("16 bits at %d: %x", i, got)
		}
	}
	for i, want := range []uint32{0x80123456, 0x12345678, 0x3456789a} {
		if got := number.At[uint32](s, i); got != want {
			t.Errorf("32 bits at %d: %x", i, got)
		}
	}
	if got := number.At[port](s, 4); got != 0x789a {
		t.Errorf("a kind of one's own: %x", got)
	}
}

// R1: where the bytes of a number are not all there, it is 0.
func TestAtBeside(t *testing.T) {
	for _, s := range []string{"", "\xff", "\xff\xff\xff", "\xff\xff\xff\xff"} {
		for _, i := range []int{math.MinInt, -4, -1, len(s) - 3, len(s) - 1, len(s), len(s) + 1, math.MaxInt} {
			if i >= 0 && i <= len(s)-4 {
				continue
			}
			if got := number.At[uint32](s, i); got != 0 {
				t.Errorf("32 bits at %d of %d bytes: %x", i, len(s), got)
			}
		}
		if got := number.At[uint8](s, len(s)); got != 0 {
			t.Errorf("8 bits behind %d bytes: %x", len(s), got)
		}
	}
}

// What was laid is read, at each size and each place.
func TestLaidIsRead(t *testing.T) {
	for n := range uint16(math.MaxUint16) {
		s := number.Lay(n, n+1)
		if number.At[uint16](s, 0) != n || number.At[uint16](s, 2) != n+1 {
			t.Fatalf("%d becomes %x", n, s)
		}
	}
	l := []uint32{0, 1, 0xff, 0x100, 0xffff, 0x10000, 0x01020304, 0x7fffffff, 0x80000000, math.MaxUint32}
	s := number.Lay(l...)
	for i, n := range l {
		if got := number.At[uint32](s, 4*i); got != n {
			t.Errorf("%x becomes %x", n, got)
		}
	}
}
