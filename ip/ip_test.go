package ip_test

import (
	"math"
	"strings"
	"testing"

	"transom/api"
	"transom/ip"
)

const (
	example  = "\x45\x00\x00\x14\x00\x00\x00\x00\x40\x06\x66\xe2\x0a\x00\x00\x01\x0a\x00\x00\x02"
	mostLoad = api.MaxPacket - api.IPHead // how many bytes a load has at most
)

// heads is heads whose fields are each at their edges, and at others.
func heads() []api.IP {
	l := []api.IP{
		{},
		{DF: true},
		{Src: 0x0a000001, Dst: 0x0a000002, Proto: 6, TTL: 64},
		{Src: 0x0a000001, Dst: 0x0a000002, Proto: 6, TTL: 64, DF: true},
		{Src: 0x01020304, Dst: 0x05060708, Proto: 9, TTL: 10, TOS: 11, ID: 0x0c0d, DF: true},
		{Src: math.MaxUint32, Dst: math.MaxUint32, Proto: math.MaxUint8, TTL: math.MaxUint8, TOS: math.MaxUint8, ID: math.MaxUint16, DF: true},
	}
	for _, n := range []uint8{1, 0x7f, 0x80, 0xff} {
		l = append(l, api.IP{Proto: n}, api.IP{TTL: n}, api.IP{TOS: n, DF: true})
	}
	for _, n := range []uint16{1, 0xff, 0x100, 0x66e2, 0x7fff, 0x8000, 0xffff} {
		l = append(l, api.IP{ID: n}, api.IP{ID: n, DF: true})
	}
	for _, n := range []uint32{1, 0xff, 0x100, 0xffff, 0x10000, 0x7fffffff, 0x80000000, 0xffff0000, math.MaxUint32} {
		l = append(l, api.IP{Src: n}, api.IP{Dst: n, DF: true}, api.IP{Src: n, Dst: ^n})
	}
	return l
}

// loads is loads of few bytes, and of as many as there may be.
func loads() []string {
	return []string{"", "\x00", "x", "load", " \t\x00load\x00\n ", "\xff\xff\xff", example, strings.Repeat("\xa5", 1000), strings.Repeat("z", mostLoad)}
}

// ones is the sum of a head's words by ones' complement, as chapter 3 tells it.
func ones(head string) int {
	n := 0
	for i := 0; i+1 < len(head); i += 2 {
		n += int(head[i])*256 + int(head[i+1])
	}
	for n > 65535 {
		n = n%65536 + n/65536
	}
	return n
}

// summed is a packet with the checksum that its first bytes call for.
func summed(s string) string {
	n := 65535 - ones(s[:10]+"\x00\x00"+s[12:20])
	return s[:10] + string([]byte{byte(n >> 8), byte(n)}) + s[12:]
}

// packet is what Encode answers, as the chapter tells it byte by byte.
func packet(h api.IP, load string) string {
	n := 20 + len(load)
	b := []byte{69, h.TOS, byte(n >> 8), byte(n), byte(h.ID >> 8), byte(h.ID), 0, 0, h.TTL, h.Proto, 0, 0}
	if h.DF {
		b[6] = 64
	}
	for _, a := range []uint32{h.Src, h.Dst} {
		b = append(b, byte(a>>24), byte(a>>16), byte(a>>8), byte(a))
	}
	return summed(string(b) + load)
}

// meant is the error that Decode answers, as the chapter tells it.
func meant(s string) api.Errno {
	if len(s) < 20 {
		return api.ErrShort
	}
	if s[0]/16 != 4 {
		return api.ErrVersion
	}
	if s[0]%16 != 5 {
		return api.ErrHead
	}
	if int(s[2])*256+int(s[3]) != len(s) {
		return api.ErrLength
	}
	if ones(s[:20]) != 65535 {
		return api.ErrSum
	}
	if s[6] != 0 && s[6] != 64 || s[7] != 0 {
		return api.ErrFragment
	}
	return api.OK
}

// with is s with another byte at a place.
func with(s string, at int, b byte) string {
	return s[:at] + string([]byte{b}) + s[at+1:]
}

// turned is s with one bit of it turned.
func turned(s string, bit int) string {
	return with(s, bit/8, s[bit/8]^128>>(bit%8))
}

// begins is the first bytes of s, for what a test tells.
func begins(s string) string {
	return s[:min(len(s), 24)]
}

// refuse checks that s is refused with an error, and that nothing is told beside it.
func refuse(t *testing.T, s string, want api.Errno) {
	t.Helper()
	if h, load, e := ip.Decode(s); e != want || h != (api.IP{}) || load != "" {
		t.Fatalf("Decode(%x..) of %d bytes: %v, a load of %d bytes, %v, not %v", begins(s), len(s), h, len(load), e, want)
	}
}

// accept checks that s is read as a head and a load.
func accept(t *testing.T, s string, h api.IP, load string) {
	t.Helper()
	if g, l, e := ip.Decode(s); e != api.OK || g != h || l != load {
		t.Fatalf("Decode(%x..) of %d bytes: %v, a load of %d bytes, %v, not %v and %d bytes", begins(s), len(s), g, len(l), e, h, len(load))
	}
}

// P5.1, P5.2: packets written by hand, among them the chapter's example: they are told, and read.
func TestWritten(t *testing.T) {
	for _, x := range []struct {
		h          api.IP
		load, want string
	}{
		{api.IP{Src: 0x0a000001, Dst: 0x0a000002, Proto: api.ProtoTCP, TTL: 64}, "", example},
		{api.IP{Src: 0x0a000001, Dst: 0x0a000002, Proto: 6, TTL: 64, DF: true}, "", "\x45\x00\x00\x14\x00\x00\x40\x00\x40\x06\x26\xe2\x0a\x00\x00\x01\x0a\x00\x00\x02"},
		{api.IP{}, "", "\x45\x00\x00\x14\x00\x00\x00\x00\x00\x00\xba\xeb\x00\x00\x00\x00\x00\x00\x00\x00"},
		{api.IP{}, "\xff", "\x45\x00\x00\x15\x00\x00\x00\x00\x00\x00\xba\xea\x00\x00\x00\x00\x00\x00\x00\x00\xff"},
		{api.IP{TOS: 1}, "", "\x45\x01\x00\x14\x00\x00\x00\x00\x00\x00\xba\xea\x00\x00\x00\x00\x00\x00\x00\x00"},
		{api.IP{TTL: 1}, "", "\x45\x00\x00\x14\x00\x00\x00\x00\x01\x00\xb9\xeb\x00\x00\x00\x00\x00\x00\x00\x00"},
		{api.IP{Src: 0x01020304, Dst: 0x05060708, Proto: 9, TTL: 10, TOS: 11, ID: 0x0c0d, DF: true}, "load", "\x45\x0b\x00\x18\x0c\x0d\x40\x00\x0a\x09\x54\xb2\x01\x02\x03\x04\x05\x06\x07\x08load"},
		// Words whose sum is above 65,535 more than once, and a checksum 0.
		{api.IP{Src: math.MaxUint32, Dst: math.MaxUint32, Proto: 255, TTL: 255, TOS: 255, ID: 65535, DF: true}, "", "\x45\xff\x00\x14\xff\xff\x40\x00\xff\xff\x79\xec\xff\xff\xff\xff\xff\xff\xff\xff"},
		{api.IP{Src: 0x0a000001, Dst: 0x0a000002, Proto: 6, TTL: 64, ID: 0x66e2}, "", "\x45\x00\x00\x14\x66\xe2\x00\x00\x40\x06\x00\x00\x0a\x00\x00\x01\x0a\x00\x00\x02"},
	} {
		if s, e := ip.Encode(x.h, x.load); s != x.want || e != api.OK {
			t.Errorf("Encode(%v, %q) = %x, %v, not %x", x.h, x.load, s, e, x.want)
		}
		accept(t, x.want, x.h, x.load)
	}
}

// P5.1: heads with their fields at the edges, with no load, few bytes, and as many as there may be.
func TestEncode(t *testing.T) {
	for _, h := range heads() {
		for _, load := range loads() {
			if s, e := ip.Encode(h, load); s != packet(h, load) || e != api.OK {
				t.Errorf("Encode(%v, %d bytes) = %x.. of %d bytes, %v", h, len(load), begins(s), len(s), e)
			}
		}
	}
}

// P5.1: each number of each field is laid as it is.
func TestEncodeEachNumber(t *testing.T) {
	for n := range 65536 {
		a, b := uint8(n), uint16(n)
		h := api.IP{Src: uint32(n) * 0x10001, Dst: ^uint32(n), Proto: a, TTL: a ^ 0x55, TOS: a ^ 0xaa, ID: b, DF: n%2 == 1}
		if s, e := ip.Encode(h, "x"); s != packet(h, "x") || e != api.OK {
			t.Fatalf("Encode(%v) = %x, %v", h, s, e)
		}
	}
}

// P5.1: a packet has at most MaxPacket bytes; one more is refused, and so are as many more as make a length go round.
func TestEncodeLong(t *testing.T) {
	for _, h := range []api.IP{{}, heads()[5]} {
		for _, n := range []int{mostLoad - 1, mostLoad} {
			load := strings.Repeat("z", n)
			s, e := ip.Encode(h, load)
			if s != packet(h, load) || len(s) != api.IPHead+n || e != api.OK {
				t.Errorf("a load of %d bytes: %d bytes, %v", n, len(s), e)
			}
			accept(t, s, h, load)
		}
		for _, n := range []int{mostLoad + 1, mostLoad + 2, api.MaxPacket, api.MaxPacket + 1, api.MaxPacket + 21, 1 << 20} {
			if s, e := ip.Encode(h, strings.Repeat("z", n)); s != "" || e != api.ErrLong {
				t.Errorf("a load of %d bytes: %d bytes, %v", n, len(s), e)
			}
		}
	}
}

// P5.2: fewer bytes than a head has are refused as that, whatever else is wrong with them.
func TestDecodeShort(t *testing.T) {
	for n := range api.IPHead {
		for _, s := range []string{example, strings.Repeat("\x00", 20), strings.Repeat("\xff", 20), with(example, 3, byte(n)), "\x55" + example, "\x46" + example} {
			refuse(t, s[:n], api.ErrShort)
		}
	}
	accept(t, example, api.IP{Src: 0x0a000001, Dst: 0x0a000002, Proto: 6, TTL: 64}, "")
}

// P5.2: of the first byte's 256 values one is read, of a packet that is right else.
func TestDecodeVersionAndHead(t *testing.T) {
	for n := range 256 {
		s := summed(with(example, 0, byte(n)))
		switch {
		case n>>4 != 4:
			refuse(t, s, api.ErrVersion)
		case n&15 != 5:
			refuse(t, s, api.ErrHead)
		default:
			accept(t, s, api.IP{Src: 0x0a000001, Dst: 0x0a000002, Proto: 6, TTL: 64}, "")
		}
	}
}

// P5.2: a length is that of all bytes, also where it is nearly, or would be if numbers of 16 bits went round.
func TestDecodeLength(t *testing.T) {
	h := api.IP{Src: 1, Dst: 2, Proto: 3, TTL: 4}
	for _, load := range []string{"", "x", strings.Repeat("y", 236), strings.Repeat("y", 492)} {
		s := packet(h, load)
		for n := range 65536 {
			told := summed(s[:2] + string([]byte{byte(n >> 8), byte(n)}) + s[4:])
			if n == len(s) {
				accept(t, told, h, load)
			} else {
				refuse(t, told, api.ErrLength)
			}
		}
		refuse(t, s+strings.Repeat("z", 1<<16), api.ErrLength)
		refuse(t, s+strings.Repeat("z", 1<<17), api.ErrLength)
	}
	refuse(t, summed(with(with(example, 2, 0), 3, 0)+strings.Repeat("z", mostLoad+1)), api.ErrLength)
}

// P5.2: of the checksum's 65,536 values just those are read with which the head's own is 0: 65,535 counts as 0 does.
func TestDecodeSum(t *testing.T) {
	h := api.IP{Src: 0x0a000001, Dst: 0x0a000002, Proto: 6, TTL: 64}
	for _, x := range []struct {
		id    uint16
		load  string
		right int
	}{{0, "", 1}, {0, "\xff\xfe\xfd", 1}, {9, "load", 1}, {0x66e2, "", 2}} {
		h.ID = x.id
		s, right := packet(h, x.load), 0
		for n := range 65536 {
			given := s[:10] + string([]byte{byte(n >> 8), byte(n)}) + s[12:]
			if ones(given[:20]) != 65535 {
				refuse(t, given, api.ErrSum)
				continue
			}
			right++
			accept(t, given, h, x.load)
		}
		if right != x.right {
			t.Errorf("%d checksums of %x are right", right, s)
		}
	}
}

// P5.2: of the 65,536 values of the two bytes that tell of parts two are read: DF, and none.
func TestDecodeFragment(t *testing.T) {
	for n := range 65536 {
		s := summed(example[:6] + string([]byte{byte(n >> 8), byte(n)}) + example[8:])
		if n == 0 || n == 64<<8 {
			accept(t, s, api.IP{Src: 0x0a000001, Dst: 0x0a000002, Proto: 6, TTL: 64, DF: n != 0}, "")
		} else {
			refuse(t, s, api.ErrFragment)
		}
	}
}

// P5.2: of several errors the first one is told: all sets of the five that a packet of enough bytes can have.
func TestDecodeOrder(t *testing.T) {
	order := []api.Errno{api.ErrVersion, api.ErrHead, api.ErrLength, api.ErrSum, api.ErrFragment, api.OK}
	for set := range 32 {
		b := []byte(packet(api.IP{Src: 1, Dst: 2, Proto: 3, TTL: 4, TOS: 5, ID: 6}, "load"))
		first := 0
		for set>>first&1 == 0 && first < 5 {
			first++
		}
		if set&1 != 0 {
			b[0] ^= 0x20
		}
		if set&2 != 0 {
			b[0] ^= 0x03
		}
		if set&4 != 0 {
			b[3]++
		}
		if set&16 != 0 {
			b[6] |= 0x20
		}
		s := summed(string(b))
		if set&8 != 0 {
			s = with(s, 11, s[11]^1)
		}
		if order[first] != api.OK {
			refuse(t, s, order[first])
		} else {
			accept(t, s, api.IP{Src: 1, Dst: 2, Proto: 3, TTL: 4, TOS: 5, ID: 6}, "load")
		}
	}
}

// P5.2: each byte of a head at each of its values, with the checksum that was there and with its own, as the chapter tells it.
func TestDecodeEachByte(t *testing.T) {
	for _, h := range heads()[:6] {
		for _, load := range []string{"", "load"} {
			s := packet(h, load)
			for at := range api.IPHead {
				for n := range 256 {
					for _, x := range []string{with(s, at, byte(n)), summed(with(s, at, byte(n)))} {
						if want := meant(x); want != api.OK {
							refuse(t, x, want)
						} else if g, l, e := ip.Decode(x); e != api.OK || packet(g, l) != summed(x) {
							t.Fatalf("Decode(%x) = %v, %q, %v", x, g, l, e)
						}
					}
				}
			}
		}
	}
}

// P5.3: what was written is read.
func TestWrittenIsRead(t *testing.T) {
	for _, h := range heads() {
		for _, load := range loads() {
			s, e := ip.Encode(h, load)
			if e != api.OK {
				t.Fatalf("Encode(%v, %d bytes): %v", h, len(load), e)
			}
			accept(t, s, h, load)
		}
	}
}

// P5.3: a packet of which one bit of the head is turned is not read.
func TestOneBitIsSeen(t *testing.T) {
	for _, h := range heads() {
		for _, load := range []string{"", "load", strings.Repeat("z", mostLoad)} {
			s, _ := ip.Encode(h, load)
			for bit := range 8 * api.IPHead {
				x := turned(s, bit)
				want := meant(x)
				if want == api.OK {
					t.Fatalf("%x: bit %d can't be seen", begins(s), bit)
				}
				refuse(t, x, want)
			}
		}
	}
}

// P5.2: the checksum is that of the head: a load of which a bit is turned is read as it came.
func TestLoadIsNotSummed(t *testing.T) {
	h := api.IP{Src: 1, Dst: 2, Proto: 3, TTL: 4}
	s, _ := ip.Encode(h, "load")
	for bit := 8 * api.IPHead; bit < 8*len(s); bit++ {
		x := turned(s, bit)
		accept(t, x, h, x[api.IPHead:])
	}
}

// P5.3: a packet that is cut off, anywhere, or has bytes more, is not read.
func TestCutOrLonger(t *testing.T) {
	for _, h := range heads() {
		for _, load := range []string{"", "x", "load", strings.Repeat("\x00", 300)} {
			s, _ := ip.Encode(h, load)
			for n := range len(s) {
				want := api.ErrShort
				if n >= api.IPHead {
					want = api.ErrLength
				}
				refuse(t, s[:n], want)
			}
			for n := range 256 {
				refuse(t, s+string([]byte{byte(n)}), api.ErrLength)
			}
			refuse(t, s+s, api.ErrLength)
		}
	}
	s, _ := ip.Encode(api.IP{}, strings.Repeat("z", mostLoad))
	refuse(t, s[:len(s)-1], api.ErrLength)
	refuse(t, s+"z", api.ErrLength)
}
