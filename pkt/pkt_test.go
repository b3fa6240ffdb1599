package pkt_test

import (
	"math"
	"slices"
	"strings"
	"testing"

	"transom/api"
	"transom/opt"
	"transom/pkt"
)

const (
	one = 0x0a000001 // 10.0.0.1
	two = 0x0a000002 // 10.0.0.2
	top = math.MaxUint32
)

// none is the options of which none is there.
var none = api.Opts{Scale: -1}

// flagsThatMay is each number of flags that may be.
var flagsThatMay = []uint8{0, 1, 2, 4, 8, 9, 10, 12, 16, 17, 18, 20, 24, 25, 26, 28}

// wire is a packet told by its bytes: what a segment's own packet has, and what may come else.
type wire struct {
	seg      api.Seg // but its Opts
	opts     string
	tos, ttl byte
	id       uint16
	parts    uint16
	proto    byte
	urgent   uint16
}

// own is the packet that is a segment's own.
func own(s api.Seg, opts string) wire {
	return wire{seg: s, opts: opts, ttl: 64, parts: 64 << 8, proto: 6}
}

// bytes is the bytes of a packet, as the chapters of its heads tell them, with checksums that are right.
func (w wire) bytes() string {
	s := w.seg
	size := 20 + len(w.opts)
	load := two16(s.Src.Port) + two16(s.Dst.Port) + four(s.Seq) + four(s.Ack) +
		string([]byte{byte(size / 4 * 16), s.Flags}) + two16(s.Window) + "\x00\x00" + two16(w.urgent) + w.opts + s.Data
	head := string([]byte{69, w.tos}) + two16(uint16(20+len(load))) + two16(w.id) + two16(w.parts) +
		string([]byte{w.ttl, w.proto}) + "\x00\x00" + four(s.Src.IP) + four(s.Dst.IP)
	return summed(head + load)
}

// two16 is the two bytes of a number.
func two16(n uint16) string {
	return string([]byte{byte(n >> 8), byte(n)})
}

// four is the four bytes of a number.
func four(n uint32) string {
	return two16(uint16(n>>16)) + two16(uint16(n))
}

// word is the number of two bytes that stands in s at a place.
func word(s string, at int) uint16 {
	return uint16(s[at])<<8 | uint16(s[at+1])
}

// long is the number of four bytes that stands in s at a place.
func long(s string, at int) uint32 {
	return uint32(word(s, at))<<16 | uint32(word(s, at+2))
}

// with is s with other bytes at a place.
func with(s string, at int, b string) string {
	return s[:at] + b + s[at+len(b):]
}

// turnedBit is s with one bit of it turned.
func turnedBit(s string, bit int) string {
	return with(s, bit/8, string([]byte{s[bit/8] ^ 128>>(bit%8)}))
}

// ones is the sum of a text's words by ones' complement, as chapter 3 tells it.
func ones(s string) int {
	n := 0
	for i := range len(s) {
		if i%2 == 0 {
			n += int(s[i]) * 256
		} else {
			n += int(s[i])
		}
	}
	for n > 65535 {
		n = n%65536 + n/65536
	}
	return n
}

// ahead is what the checksum of a packet's segment is of, but for the segment.
func ahead(s string) string {
	return s[12:20] + "\x00\x06" + two16(uint16(len(s)-20))
}

// headSummed is a packet with the checksum that its head calls for.
func headSummed(s string) string {
	return with(s, 10, two16(uint16(65535-ones(with(s[:20], 10, "\x00\x00")))))
}

// summed is a packet with the checksums that its other bytes call for, if its segment has room for one.
func summed(s string) string {
	if len(s) >= 38 {
		s = with(s, 36, two16(uint16(65535-ones(ahead(s)+with(s[20:], 16, "\x00\x00")))))
	}
	return headSummed(s)
}

// begins is the first bytes of s, for what a test tells.
func begins(s string) string {
	return s[:min(len(s), 80)]
}

// short is a segment, for what a test tells.
func short(s api.Seg) api.Seg {
	s.Data = s.Data[:min(len(s.Data), 16)]
	return s
}

// same tells whether two segments are the same, a list that is nil and one without elements alike.
func same(a, b api.Seg) bool {
	return a.Src == b.Src && a.Dst == b.Dst && a.Seq == b.Seq && a.Ack == b.Ack && a.Flags == b.Flags && a.Window == b.Window && a.Data == b.Data &&
		a.Opts.MSS == b.Opts.MSS && a.Opts.Scale == b.Opts.Scale && a.Opts.Sack == b.Opts.Sack &&
		a.Opts.Time == b.Opts.Time && a.Opts.Val == b.Opts.Val && a.Opts.Echo == b.Opts.Echo && slices.Equal(a.Opts.Blocks, b.Opts.Blocks)
}

// options is options of all sorts that may be.
func options() []api.Opts {
	return []api.Opts{
		none,
		{},
		{MSS: 1460, Scale: 7, Sack: true},
		{MSS: math.MaxUint16, Scale: 14, Time: true, Val: top, Echo: top},
		{Scale: -1, Time: true},
		{Scale: -1, Time: true, Val: 1, Echo: 2, Blocks: []api.Block{{From: 3, To: 5}}},
		{Scale: -1, Time: true, Val: 0x80000000, Echo: 0x7fffffff, Blocks: []api.Block{{From: top}, {To: top}, {From: 5, To: 4}}},
		{Scale: -1, Blocks: []api.Block{{From: 0x01020304, To: 0x05060708}, {}, {From: 9, To: 9}, {From: top, To: top}}},
	}
}

// segments is segments that may be: their fields each at its edges, and at others.
func segments() []api.Seg {
	example := api.Seg{Src: api.Addr{IP: one, Port: 4000}, Dst: api.Addr{IP: two, Port: 80}, Seq: 7, Ack: 9, Flags: 24, Window: 100, Opts: none, Data: "hello"}
	greatest := api.Seg{Src: api.Addr{IP: top, Port: math.MaxUint16}, Dst: api.Addr{IP: top, Port: math.MaxUint16}, Seq: top, Ack: top, Flags: 25, Window: math.MaxUint16, Opts: options()[6], Data: strings.Repeat("\xff", api.MaxData)}
	l := []api.Seg{{Opts: none}, example, greatest}
	for _, f := range flagsThatMay {
		l = append(l, api.Seg{Flags: f, Ack: 5, Opts: none})
	}
	for _, o := range options() {
		for _, data := range []string{"", "x", "\x00\xff", strings.Repeat("z", api.MaxData)} {
			s := example
			s.Opts, s.Data = o, data
			l = append(l, s)
		}
	}
	for _, n := range []uint32{1, 0xff, 0x100, 0xffff, 0x10000, 0x7fffffff, 0x80000000, 0xffff0000, top} {
		l = append(l, api.Seg{Src: api.Addr{IP: n}, Opts: none}, api.Seg{Dst: api.Addr{IP: n}, Opts: none}, api.Seg{Seq: n, Opts: none}, api.Seg{Ack: n, Opts: none}, api.Seg{Ack: n, Flags: 16, Opts: none})
	}
	for _, n := range []uint16{1, 0xff, 0x100, 0x7fff, 0x8000, 0xffff} {
		l = append(l, api.Seg{Src: api.Addr{Port: n}, Opts: none}, api.Seg{Dst: api.Addr{Port: n}, Opts: none}, api.Seg{Window: n, Opts: none})
	}
	return l
}

// misfits is segments that may not be, each for one cause alone.
func misfits() []api.Seg {
	var l []api.Seg
	for n := range 256 {
		if !slices.Contains(flagsThatMay, uint8(n)) {
			l = append(l, api.Seg{Flags: uint8(n), Opts: none})
		}
	}
	for _, o := range []api.Opts{{Scale: -2}, {Scale: 15}, {Scale: -1, Val: 1}, {Scale: -1, Echo: 1}, {Scale: -1, Blocks: make([]api.Block, 5)}, {Scale: 1, Time: true, Blocks: make([]api.Block, 3)}} {
		l = append(l, api.Seg{Opts: o}, api.Seg{Flags: 16, Opts: o, Data: "x"})
	}
	for _, n := range []int{api.MaxData + 1, api.MaxData + 2, 2 * api.MaxData, 65495, 65496, 1 << 16, 1<<16 + 1, 1 << 20} {
		l = append(l, api.Seg{Opts: none, Data: strings.Repeat("z", n)})
	}
	return l
}

// example is a segment whose packet is told by hand.
type example struct {
	s    api.Seg
	want string
}

// examples is segments with their packets, byte by byte.
func examples() []example {
	a, b := api.Addr{IP: one, Port: 4000}, api.Addr{IP: two, Port: 80}
	all := api.Addr{IP: top, Port: math.MaxUint16}
	return []example{
		{api.Seg{Src: api.Addr{IP: one, Port: 1}, Dst: api.Addr{IP: two, Port: 2}, Seq: 3, Flags: api.FlagSYN, Window: 4, Opts: none},
			"\x45\x00\x00\x28\x00\x00\x40\x00\x40\x06\x26\xce\x0a\x00\x00\x01\x0a\x00\x00\x02" +
				"\x00\x01\x00\x02\x00\x00\x00\x03\x00\x00\x00\x00\x50\x02\x00\x04\x9b\xd6\x00\x00"},
		{api.Seg{Src: a, Dst: b, Seq: top - 1, Flags: api.FlagSYN, Window: math.MaxUint16, Opts: api.Opts{MSS: 1460, Scale: 7, Sack: true}},
			"\x45\x00\x00\x34\x00\x00\x40\x00\x40\x06\x26\xc2\x0a\x00\x00\x01\x0a\x00\x00\x02" +
				"\x0f\xa0\x00\x50\xff\xff\xff\xfe\x00\x00\x00\x00\x80\x02\xff\xff\x4b\x20\x00\x00" +
				"\x02\x04\x05\xb4\x01\x03\x03\x07\x01\x01\x04\x02"},
		{api.Seg{Src: a, Dst: b, Seq: 7, Ack: 9, Flags: api.FlagACK | api.FlagPSH, Window: 100, Opts: options()[5], Data: "hello"},
			"\x45\x00\x00\x45\x00\x00\x40\x00\x40\x06\x26\xb1\x0a\x00\x00\x01\x0a\x00\x00\x02" +
				"\x0f\xa0\x00\x50\x00\x00\x00\x07\x00\x00\x00\x09\xb0\x18\x00\x64\xd8\x55\x00\x00" +
				"\x01\x01\x08\x0a\x00\x00\x00\x01\x00\x00\x00\x02\x01\x01\x05\x0a\x00\x00\x00\x03\x00\x00\x00\x05hello"},
		{api.Seg{Flags: api.FlagRST, Opts: none},
			"\x45\x00\x00\x28\x00\x00\x40\x00\x40\x06\x3a\xd1\x00\x00\x00\x00\x00\x00\x00\x00" +
				"\x00\x00\x00\x00\x00\x00\x00\x00\x00\x00\x00\x00\x50\x04\x00\x00\xaf\xe1\x00\x00"},
		{api.Seg{Src: all, Dst: all, Seq: top, Ack: top, Flags: api.FlagFIN | api.FlagPSH | api.FlagACK, Window: math.MaxUint16, Opts: none, Data: "\xff"},
			"\x45\x00\x00\x29\x00\x00\x40\x00\x40\x06\x3a\xd0\xff\xff\xff\xff\xff\xff\xff\xff" +
				"\xff\xff\xff\xff\xff\xff\xff\xff\xff\xff\xff\xff\x50\x19\xff\xff\xb0\xca\x00\x00\xff"},
	}
}

// write checks that a segment may be, and what its packet is, and tells that.
func write(t *testing.T, s api.Seg) string {
	t.Helper()
	opts, e := opt.Encode(s.Opts)
	if e != api.OK {
		t.Fatalf("%#v may not be", s.Opts)
	}
	want := own(s, opts).bytes()
	if p, e := pkt.Encode(s); !pkt.May(s) || p != want || e != api.OK {
		t.Fatalf("%#v: May %v, Encode %x, %v, not %x", short(s), pkt.May(s), begins(p), e, begins(want))
	}
	return want
}

// refuseWrite checks that a segment may not be, and that nothing is told beside the error.
func refuseWrite(t *testing.T, s api.Seg) {
	t.Helper()
	if p, e := pkt.Encode(s); pkt.May(s) || p != "" || e != api.ErrArg {
		t.Fatalf("%#v with %d bytes: May %v, Encode %x, %v", short(s), len(s.Data), pkt.May(s), begins(p), e)
	}
}

// P8.1, P8.2: segments' packets written by hand: they are told, and read.
func TestWritten(t *testing.T) {
	for _, x := range examples() {
		if p, e := pkt.Encode(x.s); p != x.want || e != api.OK || !pkt.May(x.s) {
			t.Errorf("%#v: May %v, Encode %x, %v, not %x", x.s, pkt.May(x.s), p, e, x.want)
		}
		read(t, x.want, x.s)
	}
}

// P8.1, P8.4: segments with their fields at the edges: their packets are as the chapter tells them, and read.
func TestWrittenIsRead(t *testing.T) {
	for _, s := range segments() {
		read(t, write(t, s), s)
	}
}

// P8.1, P8.4: each number of each field is laid and read as it is.
func TestEachNumber(t *testing.T) {
	for n := range 65536 {
		a, b := uint16(n), uint32(n)
		s := api.Seg{Src: api.Addr{IP: b << 16, Port: a}, Dst: api.Addr{IP: ^b, Port: ^a}, Seq: b * 0x10001, Ack: ^b << 7, Flags: flagsThatMay[n%16], Window: a ^ 0x5555, Opts: none, Data: "x"}
		read(t, write(t, s), s)
	}
}

// P8.1: of Flags just those may be that the chapter names, with no two of FIN, SYN and RST.
func TestEachFlags(t *testing.T) {
	for n := range 256 {
		s := api.Seg{Flags: uint8(n), Opts: none}
		if slices.Contains(flagsThatMay, s.Flags) {
			write(t, s)
		} else {
			refuseWrite(t, s)
		}
	}
}

// P8.1: data has at most MaxData bytes, whatever the options are; one more is refused, and as many as make a length go round.
func TestData(t *testing.T) {
	for _, o := range options() {
		for _, n := range []int{0, 1, 2, api.MaxData - 1, api.MaxData} {
			write(t, api.Seg{Opts: o, Data: strings.Repeat("z", n)})
		}
		for _, n := range []int{api.MaxData + 1, api.MaxData + 4, 65495 - 40, 65495, 65536, 65536 + 7, 1 << 17} {
			refuseWrite(t, api.Seg{Opts: o, Data: strings.Repeat("z", n)})
		}
	}
}

// P8.1: what may not be for one cause is refused; nor may it be for several.
func TestMisfits(t *testing.T) {
	for _, s := range misfits() {
		refuseWrite(t, s)
		s.Flags |= api.FlagURG
		refuseWrite(t, s)
	}
	refuseWrite(t, api.Seg{Flags: 255, Opts: api.Opts{Scale: 99}, Data: strings.Repeat("z", 1<<16)})
}

// P8.1: Same tells of each field whether it is another one; no blocks are the same as a list without elements.
func TestSame(t *testing.T) {
	l := []api.Seg{
		{Opts: none},
		{},
		{Opts: none, Src: api.Addr{IP: 1}},
		{Opts: none, Src: api.Addr{Port: 1}},
		{Opts: none, Dst: api.Addr{IP: 1}},
		{Opts: none, Dst: api.Addr{Port: 1}},
		{Opts: none, Seq: 1},
		{Opts: none, Seq: 1 << 31},
		{Opts: none, Ack: 1},
		{Opts: none, Flags: 1},
		{Opts: none, Flags: 255},
		{Opts: none, Window: 1},
		{Opts: none, Data: "\x00"},
		{Opts: none, Data: "a"},
		{Opts: none, Data: "ab"},
		{Opts: none, Data: strings.Repeat("z", 1<<16)},
		{Opts: api.Opts{Scale: -1, MSS: 1}},
		{Opts: api.Opts{Scale: -1, Sack: true}},
		{Opts: api.Opts{Scale: -1, Time: true}},
		{Opts: api.Opts{Scale: -1, Time: true, Val: 1}},
		{Opts: api.Opts{Scale: -1, Time: true, Echo: 1}},
		{Opts: api.Opts{Scale: 99}},
		{Opts: api.Opts{Scale: -1, Blocks: []api.Block{{}}}},
		{Opts: api.Opts{Scale: -1, Blocks: []api.Block{{From: 1}}}},
		{Opts: api.Opts{Scale: -1, Blocks: []api.Block{{To: 1}}}},
		{Src: api.Addr{IP: 1, Port: 2}, Dst: api.Addr{IP: 3, Port: 4}, Seq: 5, Ack: 6, Flags: 7, Window: 8, Opts: api.Opts{MSS: 9, Blocks: []api.Block{{From: 1, To: 2}, {From: 3, To: 4}}}, Data: "data"},
		{Src: api.Addr{IP: 3, Port: 4}, Dst: api.Addr{IP: 1, Port: 2}, Seq: 5, Ack: 6, Flags: 7, Window: 8, Opts: api.Opts{MSS: 9, Blocks: []api.Block{{From: 1, To: 2}, {From: 3, To: 4}}}, Data: "data"},
		{Src: api.Addr{IP: 1, Port: 2}, Dst: api.Addr{IP: 3, Port: 4}, Seq: 6, Ack: 5, Flags: 7, Window: 8, Opts: api.Opts{MSS: 9, Blocks: []api.Block{{From: 1, To: 2}, {From: 3, To: 4}}}, Data: "data"},
		{Src: api.Addr{IP: 1, Port: 2}, Dst: api.Addr{IP: 3, Port: 4}, Seq: 5, Ack: 6, Flags: 7, Window: 8, Opts: api.Opts{MSS: 9, Blocks: []api.Block{{From: 3, To: 4}, {From: 1, To: 2}}}, Data: "data"},
	}
	for i, a := range l {
		for k, b := range l {
			b.Opts.Blocks = append([]api.Block{}, b.Opts.Blocks...)
			b.Data = strings.Clone(b.Data)
			if got := pkt.Same(a, b); got != (i == k) {
				t.Errorf("Same(%#v, %#v) = %v", short(a), short(b), got)
			}
		}
	}
}

// P8.1: Next is one more for each byte of data, for SYN and for FIN, whatever else there is; it goes around at 2^32.
func TestNext(t *testing.T) {
	for n := range 256 {
		more := uint32(n&1 + n>>1&1)
		for _, size := range []int{0, 1, 2, api.MaxData, api.MaxData + 1, 1 << 16} {
			for _, seq := range []uint32{0, 1, 0x7fffffff, top - api.MaxData, top - 2, top - 1, top} {
				s := api.Seg{Seq: seq, Ack: 77, Flags: uint8(n), Window: 88, Opts: options()[n%8], Data: strings.Repeat("z", size)}
				if got := pkt.Next(s); got != seq+uint32(size)+more {
					t.Fatalf("Next of %d, flags %d, %d bytes: %d", seq, n, size, got)
				}
			}
		}
	}
}

// P8.1: the edges of Next, each worked out by hand.
func TestNextByHand(t *testing.T) {
	for _, x := range []struct {
		s    api.Seg
		want uint32
	}{
		{api.Seg{}, 0},
		{api.Seg{Seq: 7, Flags: api.FlagACK}, 7},
		{api.Seg{Seq: 7, Flags: api.FlagSYN}, 8},
		{api.Seg{Seq: 7, Flags: api.FlagFIN | api.FlagACK}, 8},
		{api.Seg{Seq: 7, Flags: api.FlagRST | api.FlagPSH}, 7},
		{api.Seg{Seq: 7, Data: "hello"}, 12},
		{api.Seg{Seq: 7, Flags: api.FlagFIN, Data: "hello"}, 13},
		{api.Seg{Seq: 7, Flags: api.FlagSYN | api.FlagFIN, Data: "hello"}, 14},
		{api.Seg{Seq: top, Flags: api.FlagSYN}, 0},
		{api.Seg{Seq: top, Flags: api.FlagFIN, Data: "ab"}, 2},
	} {
		if got := pkt.Next(x.s); got != x.want {
			t.Errorf("Next(%#v) = %d, not %d", x.s, got, x.want)
		}
	}
}
