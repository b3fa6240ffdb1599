package tcp_test

import (
	"math"
	"strings"
	"testing"

	"transom/api"
	"transom/tcp"
)

const (
	one     = 0x0a000001 // 10.0.0.1
	two     = 0x0a000002 // 10.0.0.2
	most    = api.MaxPacket - api.IPHead
	example = "\x00\x01\x00\x02\x00\x00\x00\x03\x00\x00\x00\x00\x50\x02\x00\x04\x9b\xd6\x00\x00"
)

// heads is heads whose fields are each at their edges, and at others.
func heads() []api.TCP {
	l := []api.TCP{
		{},
		{Src: 1, Dst: 2, Seq: 3, Flags: api.FlagSYN, Window: 4},
		{Src: 1, Dst: 2, Seq: 3, Flags: api.FlagSYN, Window: 4, Opts: "\x02\x04\x05\xb4"},
		{Src: 0x0102, Dst: 0x0304, Seq: 0x05060708, Ack: 0x090a0b0c, Flags: 0x0d, Window: 0x0e0f, Urgent: 0x1011, Opts: "\x12\x13\x14\x15\x16\x17\x18\x19"},
		{Src: math.MaxUint16, Dst: math.MaxUint16, Seq: math.MaxUint32, Ack: math.MaxUint32, Flags: 63, Window: math.MaxUint16, Urgent: math.MaxUint16, Opts: strings.Repeat("\xff", api.MaxOpts)},
	}
	for n := range uint8(64) {
		l = append(l, api.TCP{Flags: n})
	}
	for _, n := range []uint16{1, 0xff, 0x100, 0x9bd6, 0x7fff, 0x8000, 0xffff} {
		l = append(l, api.TCP{Src: n}, api.TCP{Dst: n}, api.TCP{Window: n}, api.TCP{Urgent: n}, api.TCP{Src: n, Dst: ^n})
	}
	for _, n := range []uint32{1, 0xff, 0x100, 0xffff, 0x10000, 0x7fffffff, 0x80000000, 0xffff0000, math.MaxUint32} {
		l = append(l, api.TCP{Seq: n}, api.TCP{Ack: n}, api.TCP{Seq: n, Ack: ^n})
	}
	for n := 4; n <= api.MaxOpts; n += 4 {
		l = append(l, api.TCP{Opts: strings.Repeat("\x00", n)}, api.TCP{Seq: 7, Opts: strings.Repeat("\x01\xfe\x80\x7f", n/4)})
	}
	return l
}

// ends is from where to where a segment goes.
func ends() [][2]uint32 {
	return [][2]uint32{{one, two}, {0, 0}, {0, math.MaxUint32}, {math.MaxUint32, math.MaxUint32}, {0x80000000, 0x0000ffff}, {0xc0a80001, 0x08080808}}
}

// texts is data of no bytes, of few, of an odd number and of an even one.
func texts() []string {
	return []string{"", "\x00", "\xff", "x", "data", " \t\x00data\x00\n", "\xff\xff\xff", "\x00\x01", example, strings.Repeat("\xa5", 999)}
}

// ones is the sum of a text's words by ones' complement, as chapter 3 tells it.
func ones(s string) int {
	n := 0
	for i := range len(s) {
		if i%2 == 0 {
			n += int(s[i]) * 256
		} else {
			n += int(s[i])
		}
	}
	for n > 65535 {
		n = n%65536 + n/65536
	}
	return n
}

// two16 is the two bytes of a number.
func two16(n int) string {
	return string([]byte{byte(n >> 8), byte(n)})
}

// ahead is what the checksum is of, but for the segment itself.
func ahead(src, dst uint32, size int) string {
	b := []byte{}
	for _, a := range []uint32{src, dst} {
		b = append(b, byte(a>>24), byte(a>>16), byte(a>>8), byte(a))
	}
	return string(b) + "\x00\x06" + two16(size)
}

// summed is a segment with the checksum that its other bytes call for.
func summed(src, dst uint32, s string) string {
	n := 65535 - ones(ahead(src, dst, len(s))+s[:16]+"\x00\x00"+s[18:])
	return s[:16] + two16(n) + s[18:]
}

// segment is what Encode answers, as the chapter tells it byte by byte.
func segment(src, dst uint32, h api.TCP, data string) string {
	b := []byte{
		byte(h.Src >> 8), byte(h.Src), byte(h.Dst >> 8), byte(h.Dst),
		byte(h.Seq >> 24), byte(h.Seq >> 16), byte(h.Seq >> 8), byte(h.Seq),
		byte(h.Ack >> 24), byte(h.Ack >> 16), byte(h.Ack >> 8), byte(h.Ack),
		byte(16 * (5 + len(h.Opts)/4)), h.Flags, byte(h.Window >> 8), byte(h.Window),
		0, 0, byte(h.Urgent >> 8), byte(h.Urgent),
	}
	return summed(src, dst, string(b)+h.Opts+data)
}

// meant is the error that Decode answers, as the chapter tells it.
func meant(src, dst uint32, s string) api.Errno {
	if len(s) < 20 {
		return api.ErrShort
	}
	if len(s) > 65515 {
		return api.ErrLong
	}
	if ones(ahead(src, dst, len(s))+s) != 65535 {
		return api.ErrSum
	}
	if n := int(s[12]) / 16 * 4; n < 20 || n > len(s) {
		return api.ErrOffset
	}
	if s[12]%16 != 0 || s[13] > 63 {
		return api.ErrReserved
	}
	return api.OK
}

// with is s with another byte at a place.
func with(s string, at int, b byte) string {
	return s[:at] + string([]byte{b}) + s[at+1:]
}

// turned is s with one bit of it turned.
func turned(s string, bit int) string {
	return with(s, bit/8, s[bit/8]^128>>(bit%8))
}

// begins is the first bytes of s, for what a test tells.
func begins(s string) string {
	return s[:min(len(s), 32)]
}

// refuse checks that s is refused with an error, and that nothing is told beside it.
func refuse(t *testing.T, src, dst uint32, s string, want api.Errno) {
	t.Helper()
	if h, data, e := tcp.Decode(src, dst, s); e != want || h != (api.TCP{}) || data != "" {
		t.Fatalf("Decode(%x, %x, %x..) of %d bytes: %#v, %d bytes of data, %v, not %v", src, dst, begins(s), len(s), h, len(data), e, want)
	}
}

// accept checks that s is read as a head and data.
func accept(t *testing.T, src, dst uint32, s string, h api.TCP, data string) {
	t.Helper()
	if g, d, e := tcp.Decode(src, dst, s); e != api.OK || g != h || d != data {
		t.Fatalf("Decode(%x, %x, %x..) of %d bytes: %#v, %d bytes of data, %v, not %#v and %d bytes", src, dst, begins(s), len(s), g, len(d), e, h, len(data))
	}
}

// write checks what Encode answers, and tells it.
func write(t *testing.T, src, dst uint32, h api.TCP, data string) string {
	t.Helper()
	s, e := tcp.Encode(src, dst, h, data)
	if e != api.OK || s != segment(src, dst, h, data) {
		t.Fatalf("Encode(%x, %x, %#v, %d bytes) = %x.. of %d bytes, %v", src, dst, h, len(data), begins(s), len(s), e)
	}
	return s
}

// refuseWrite checks that Encode refuses with an error, and that nothing is told beside it.
func refuseWrite(t *testing.T, h api.TCP, data string, want api.Errno) {
	t.Helper()
	if s, e := tcp.Encode(one, two, h, data); s != "" || e != want {
		t.Fatalf("Encode of flags %d, %d bytes of options, %d of data = %d bytes, %v, not %v", h.Flags, len(h.Opts), len(data), len(s), e, want)
	}
}

// P6.1, P6.2: segments written by hand, among them the chapter's example: they are told, and read.
func TestWritten(t *testing.T) {
	for _, x := range []struct {
		src, dst   uint32
		h          api.TCP
		data, want string
	}{
		{one, two, api.TCP{Src: 1, Dst: 2, Seq: 3, Flags: api.FlagSYN, Window: 4}, "", example},
		{0, 0, api.TCP{}, "", "\x00\x00\x00\x00\x00\x00\x00\x00\x00\x00\x00\x00\x50\x00\x00\x00\xaf\xe5\x00\x00"},
		{0, 0, api.TCP{}, "\x01", "\x00\x00\x00\x00\x00\x00\x00\x00\x00\x00\x00\x00\x50\x00\x00\x00\xae\xe4\x00\x00\x01"},
		{0, 0, api.TCP{}, "\x00\x01", "\x00\x00\x00\x00\x00\x00\x00\x00\x00\x00\x00\x00\x50\x00\x00\x00\xaf\xe2\x00\x00\x00\x01"},
		{0, 0, api.TCP{Opts: "\x01\x01\x01\x00"}, "", "\x00\x00\x00\x00\x00\x00\x00\x00\x00\x00\x00\x00\x60\x00\x00\x00\x9d\xe0\x00\x00\x01\x01\x01\x00"},
		{1 << 24, 0, api.TCP{Urgent: 0x0203}, "", "\x00\x00\x00\x00\x00\x00\x00\x00\x00\x00\x00\x00\x50\x00\x00\x00\xac\xe2\x02\x03"},
		// A checksum 0.
		{0, 0, api.TCP{Src: 0xafe5}, "", "\xaf\xe5\x00\x00\x00\x00\x00\x00\x00\x00\x00\x00\x50\x00\x00\x00\x00\x00\x00\x00"},
	} {
		if s, e := tcp.Encode(x.src, x.dst, x.h, x.data); s != x.want || e != api.OK {
			t.Errorf("Encode(%x, %x, %#v, %q) = %x, %v, not %x", x.src, x.dst, x.h, x.data, s, e, x.want)
		}
		accept(t, x.src, x.dst, x.want, x.h, x.data)
	}
}

// P6.1, P6.3: heads with their fields at the edges, with data of all lengths that count, by several addresses: they are laid as the chapter tells, and read.
func TestWrittenIsRead(t *testing.T) {
	for _, h := range heads() {
		for _, data := range texts() {
			for _, x := range ends() {
				s := write(t, x[0], x[1], h, data)
				accept(t, x[0], x[1], s, h, data)
			}
		}
	}
}

// P6.1, P6.3: each number of each field is laid and read as it is.
func TestEachNumber(t *testing.T) {
	for n := range 65536 {
		a, b := uint16(n), uint32(n)
		h := api.TCP{Src: a, Dst: ^a, Seq: b * 0x10001, Ack: ^b << 7, Flags: uint8(n % 64), Window: a ^ 0x5555, Urgent: a ^ 0xaaaa}
		s := write(t, b<<16, ^b, h, "x")
		accept(t, b<<16, ^b, s, h, "x")
	}
}

// P6.1: options have as many bytes as a multiple of four, at most MaxOpts: four more are refused, and any other number.
func TestEncodeOpts(t *testing.T) {
	for n := range 300 {
		h := api.TCP{Src: 1, Dst: 2, Opts: strings.Repeat("\x01", n)}
		for _, data := range []string{"", "data"} {
			if n%4 != 0 || n > api.MaxOpts {
				refuseWrite(t, h, data, api.ErrArg)
				continue
			}
			s := write(t, one, two, h, data)
			accept(t, one, two, s, h, data)
		}
	}
	for _, n := range []int{1 << 10, 1<<16 - 20, 1 << 16, 1<<16 + 4, 1 << 20} {
		refuseWrite(t, api.TCP{Opts: strings.Repeat("\x00", n)}, "", api.ErrArg)
	}
}

// P6.1: of Flags the two high bits are 0, each by itself.
func TestEncodeFlags(t *testing.T) {
	for n := range 256 {
		h := api.TCP{Src: 1, Dst: 2, Flags: uint8(n)}
		if n < 64 {
			write(t, one, two, h, "data")
		} else {
			refuseWrite(t, h, "data", api.ErrArg)
		}
	}
}

// P6.1: a segment has at most MaxPacket - IPHead bytes, options and all; one more is refused, and so are as many more as make a length go round.
func TestEncodeLong(t *testing.T) {
	for _, opts := range []string{"", "\x02\x04\x05\xb4", strings.Repeat("\x01", api.MaxOpts)} {
		h := api.TCP{Src: 1, Dst: 2, Seq: 3, Flags: api.FlagACK, Opts: opts}
		room := most - api.TCPHead - len(opts)
		for _, n := range []int{room - 2, room - 1, room} {
			data := strings.Repeat("z", n)
			s := write(t, one, two, h, data)
			accept(t, one, two, s, h, data)
			if n == room && len(s) != 65515 {
				t.Errorf("the longest one has %d bytes", len(s))
			}
		}
		for _, n := range []int{room + 1, room + 2, most, api.MaxPacket - api.TCPHead - len(opts), api.MaxPacket, 1 << 16, 1<<16 + 1, 1 << 20} {
			refuseWrite(t, h, strings.Repeat("z", n), api.ErrLong)
		}
	}
}

// P6.1: what may not be is told ahead of what is too long.
func TestEncodeOrder(t *testing.T) {
	data := strings.Repeat("z", most)
	refuseWrite(t, api.TCP{}, data, api.ErrLong)
	refuseWrite(t, api.TCP{Opts: "x"}, data, api.ErrArg)
	refuseWrite(t, api.TCP{Opts: strings.Repeat("\x00", 44)}, data, api.ErrArg)
	refuseWrite(t, api.TCP{Flags: 64}, data, api.ErrArg)
	refuseWrite(t, api.TCP{Flags: 128}, data, api.ErrArg)
	refuseWrite(t, api.TCP{Flags: 128, Opts: "xyz"}, "", api.ErrArg)
}

// P6.2: fewer bytes than a head has are refused as that, whatever else is wrong with them.
func TestDecodeShort(t *testing.T) {
	for n := range api.TCPHead {
		for _, s := range []string{example, strings.Repeat("\x00", 20), strings.Repeat("\xff", 20), with(with(example, 12, 0), 13, 0xff)} {
			refuse(t, one, two, s[:n], api.ErrShort)
			if n >= 18 {
				refuse(t, one, two, summed(one, two, s[:n]), api.ErrShort)
			}
		}
	}
	accept(t, one, two, example, api.TCP{Src: 1, Dst: 2, Seq: 3, Flags: 2, Window: 4}, "")
}

// P6.2: more bytes than there may be are refused as that, with a checksum that is right and with one that is not.
func TestDecodeLong(t *testing.T) {
	h := api.TCP{Src: 1, Dst: 2, Seq: 3, Flags: 16}
	for _, n := range []int{most + 1, most + 2, api.MaxPacket, api.MaxPacket + 1, api.MaxPacket + api.TCPHead, 1 << 17} {
		s := segment(one, two, h, strings.Repeat("z", n-api.TCPHead))
		for _, x := range []string{s, with(s, 17, s[17]^1), with(s, 12, 0), summed(one, two, with(s, 12, 0)), summed(one, two, with(s, 13, 0xff)), strings.Repeat("\xff", n)} {
			refuse(t, one, two, x, api.ErrLong)
		}
	}
	data := strings.Repeat("z", most-api.TCPHead)
	accept(t, one, two, segment(one, two, h, data), h, data)
	refuse(t, one, two, turned(segment(one, two, h, data), 8*most-1), api.ErrSum)
}

// P6.2: of the checksum's 65,536 values just those are read with which all is right: 65,535 counts as 0 does.
func TestDecodeSum(t *testing.T) {
	for _, x := range []struct {
		h     api.TCP
		data  string
		right int
	}{{api.TCP{Src: 1, Dst: 2, Seq: 3, Flags: 2, Window: 4}, "", 1}, {api.TCP{Opts: "\x01\x01\x01\x00"}, "odd", 1}, {api.TCP{Src: 0xafe5 - 0x1400 - 3}, "", 2}} {
		s, right := segment(one, two, x.h, x.data), 0
		for n := range 65536 {
			given := s[:16] + two16(n) + s[18:]
			if meant(one, two, given) != api.OK {
				refuse(t, one, two, given, api.ErrSum)
				continue
			}
			right++
			accept(t, one, two, given, x.h, x.data)
		}
		if right != x.right {
			t.Errorf("%d checksums of %x are right", right, s)
		}
	}
}

// P6.2: the checksum is that of the length as well, and a last byte alone is the high one of its word.
func TestDecodeSumOfLength(t *testing.T) {
	h := api.TCP{Src: 1, Dst: 2, Seq: 3, Flags: 16}
	s := segment(one, two, h, "")
	for _, more := range []string{"\x00", "\x00\x00", "\xff\xff", "\x00\x00\x00"} {
		refuse(t, one, two, s+more, api.ErrSum)
	}
	// What is behind makes up for as much as the length has more.
	accept(t, one, two, s+"\xff\xfd", h, "\xff\xfd")
	s = segment(one, two, h, "ab")
	refuse(t, one, two, s[:len(s)-1], api.ErrSum)
	refuse(t, one, two, s[:len(s)-2]+"\x00a", api.ErrSum)
	s = segment(one, two, h, "a")
	refuse(t, one, two, s+"\x00", api.ErrSum)
}

// P6.2: of the offset's 16 values those are read that are a head at least, and at most what there is.
func TestDecodeOffset(t *testing.T) {
	for _, size := range []int{20, 21, 22, 23, 24, 25, 27, 28, 40, 59, 60, 61, 100, most} {
		s := segment(one, two, api.TCP{Src: 1, Dst: 2, Seq: 3, Flags: 16}, strings.Repeat("\x01\x02\x03", size/3)[:size-20])
		for n := range 16 {
			x := summed(one, two, with(s, 12, byte(n<<4)))
			if n < 5 || 4*n > len(x) {
				refuse(t, one, two, x, api.ErrOffset)
				continue
			}
			accept(t, one, two, x, api.TCP{Src: 1, Dst: 2, Seq: 3, Flags: 16, Opts: x[20 : 4*n]}, x[4*n:])
		}
	}
}

// P6.2: each value of the byte of the offset, and of that of Flags, with the checksum that it calls for.
func TestDecodeReserved(t *testing.T) {
	h := api.TCP{Src: 1, Dst: 2, Seq: 3, Flags: 2, Window: 4}
	for n := range 256 {
		h.Flags = uint8(n)
		x := summed(one, two, with(example, 13, byte(n)))
		if n < 64 {
			accept(t, one, two, x, h, "")
		} else {
			refuse(t, one, two, x, api.ErrReserved)
		}
		x = summed(one, two, with(example, 12, byte(n)))
		switch {
		case n>>4 != 5:
			refuse(t, one, two, x, api.ErrOffset)
		case n != 0x50:
			refuse(t, one, two, x, api.ErrReserved)
		default:
			accept(t, one, two, x, api.TCP{Src: 1, Dst: 2, Seq: 3, Flags: 2, Window: 4}, "")
		}
	}
	for _, low := range []byte{0, 1, 2, 4, 8, 15} {
		for _, high := range []byte{0, 64, 128, 192} {
			if low+high == 0 {
				continue
			}
			refuse(t, one, two, summed(one, two, with(with(example, 12, 0x50|low), 13, high|16)), api.ErrReserved)
		}
	}
}

// P6.2: of several errors the first one is told: all sets of those that go together, of segments that are too short, just right, and too long.
func TestDecodeOrder(t *testing.T) {
	for set := range 8 {
		for _, size := range []int{18, 19, 20, 24, most, most + 1} {
			b := []byte(example + strings.Repeat("d", most))[:size]
			want := api.OK
			if set&4 != 0 {
				b[12], b[13] = b[12]|1, b[13]|0x80
				want = api.ErrReserved
			}
			if set&2 != 0 {
				b[12] &= 0x4f
				want = api.ErrOffset
			}
			s := summed(one, two, string(b))
			if set&1 != 0 {
				s = with(s, 17, s[17]^1)
				want = api.ErrSum
			}
			switch {
			case size < 20:
				refuse(t, one, two, s, api.ErrShort)
			case size > most:
				refuse(t, one, two, s, api.ErrLong)
			case want != api.OK:
				refuse(t, one, two, s, want)
			default:
				accept(t, one, two, s, api.TCP{Src: 1, Dst: 2, Seq: 3, Flags: 2, Window: 4}, string(b[20:]))
			}
		}
	}
}

// P6.2: an offset beyond what there is counts ahead of bits that have no meaning, and behind the checksum.
func TestDecodeOffsetOrder(t *testing.T) {
	for _, offset := range []byte{0x00, 0x40, 0x60, 0xf0, 0x4f, 0x6f, 0xff} {
		x := with(with(example, 12, offset), 13, 0xff)
		refuse(t, one, two, summed(one, two, x), api.ErrOffset)
		refuse(t, one, two, with(summed(one, two, x), 0, 0x55), api.ErrSum)
	}
}

// P6.2: each byte of a segment at each of its values, with the checksum that was there and with its own, as the chapter tells it; what is read is what was given.
func TestDecodeEachByte(t *testing.T) {
	for _, h := range heads()[:4] {
		for _, data := range []string{"", "x", "data"} {
			s := segment(one, two, h, data)
			for at := range len(s) {
				for n := range 256 {
					for _, x := range []string{with(s, at, byte(n)), summed(one, two, with(s, at, byte(n)))} {
						if want := meant(one, two, x); want != api.OK {
							refuse(t, one, two, x, want)
						} else if g, d, e := tcp.Decode(one, two, x); e != api.OK || segment(one, two, g, d) != summed(one, two, x) {
							t.Fatalf("Decode(%x) = %#v, %q, %v", x, g, d, e)
						}
					}
				}
			}
		}
	}
}

// P6.2: bytes of any kind, of any length, are read or refused as the chapter tells it.
func TestDecodeAnything(t *testing.T) {
	n := uint32(1)
	for size := range 200 {
		for range 20 {
			b := make([]byte, size)
			for i := range b {
				n = n*1664525 + 1013904223
				b[i] = byte(n >> 24)
			}
			s := string(b)
			for _, x := range []string{s, summed(one, two, s+strings.Repeat("\x00", max(0, 18-size)))} {
				if want := meant(one, two, x); want != api.OK {
					refuse(t, one, two, x, want)
				} else if g, d, e := tcp.Decode(one, two, x); e != api.OK || segment(one, two, g, d) != summed(one, two, x) {
					t.Fatalf("Decode(%x) = %#v, %q, %v", x, g, d, e)
				}
			}
		}
	}
}

// P6.3: a segment of which one bit is turned is not read.
func TestOneBitIsSeen(t *testing.T) {
	for _, h := range heads() {
		for _, data := range []string{"", "x", "data"} {
			s := write(t, one, two, h, data)
			for bit := range 8 * len(s) {
				refuse(t, one, two, turned(s, bit), api.ErrSum)
			}
		}
	}
	s := write(t, one, two, heads()[4], strings.Repeat("z", most-60))
	for bit := 0; bit < 8*len(s); bit += 4093 {
		refuse(t, one, two, turned(s, bit), api.ErrSum)
	}
	refuse(t, one, two, turned(s, 8*len(s)-1), api.ErrSum)
}

// P6.3: nor is one by another address: each bit of both addresses.
func TestAnotherAddress(t *testing.T) {
	for _, h := range heads()[:5] {
		for _, data := range []string{"", "x", "data"} {
			for _, x := range ends() {
				s := write(t, x[0], x[1], h, data)
				for bit := range 32 {
					refuse(t, x[0]^1<<bit, x[1], s, api.ErrSum)
					refuse(t, x[0], x[1]^1<<bit, s, api.ErrSum)
				}
			}
		}
	}
}

// P6.3: addresses that make the same sum can't be told apart: the same ones the other way round, their words elsewhere, 65,535 for a word 0.
func TestSameSum(t *testing.T) {
	h := api.TCP{Src: 1, Dst: 2, Seq: 3, Flags: 16}
	s := write(t, one, two, h, "data")
	accept(t, two, one, s, h, "data")
	accept(t, 0x00010a00, two, s, h, "data")
	accept(t, 0x0a000a00, 0x00010002, s, h, "data")
	accept(t, one+1, two-1, s, h, "data")
	refuse(t, one+1, two, s, api.ErrSum)
	s = write(t, 0x0000ffff, 0xffff0000, h, "data")
	accept(t, 0, 0, s, h, "data")
	accept(t, math.MaxUint32, 0, s, h, "data")
	refuse(t, 1, 0, s, api.ErrSum)
}
