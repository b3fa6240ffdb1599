package pkt_test

import (
	"math"
	"slices"
	"strings"
	"testing"

	"transom/api"
	"transom/opt"
	"transom/pkt"
)

// wrongHead is the error of a packet's head, as chapter 5 tells it, or of its Proto.
func wrongHead(s string) api.Errno {
	switch {
	case len(s) < 20:
		return api.ErrShort
	case s[0]/16 != 4:
		return api.ErrVersion
	case s[0]%16 != 5:
		return api.ErrHead
	case int(word(s, 2)) != len(s):
		return api.ErrLength
	case ones(s[:20]) != 65535:
		return api.ErrSum
	case s[6] != 0 && s[6] != 64 || s[7] != 0:
		return api.ErrFragment
	case s[9] != 6:
		return api.ErrProto
	}
	return api.OK
}

// wrongSegment is the error of a segment's head, as chapter 6 tells it.
func wrongSegment(s string) api.Errno {
	if len(s) < 40 {
		return api.ErrShort
	}
	if ones(ahead(s)+s[20:]) != 65535 {
		return api.ErrSum
	}
	if n := int(s[32]) / 16 * 4; n < 20 || n > len(s)-20 {
		return api.ErrOffset
	}
	if s[32]%16 != 0 || s[33] > 63 {
		return api.ErrReserved
	}
	return api.OK
}

// meant is what Decode answers, as the chapter tells it.
func meant(s string) (api.Seg, api.Errno) {
	if e := wrongHead(s); e != api.OK {
		return api.Seg{}, e
	}
	if e := wrongSegment(s); e != api.OK {
		return api.Seg{}, e
	}
	size := int(s[32]) / 16 * 4
	o, e := opt.Decode(s[40 : 20+size])
	if e != api.OK {
		return api.Seg{}, e
	}
	if !slices.Contains(flagsThatMay, s[33]) {
		return api.Seg{}, api.ErrFlags
	}
	if len(s)-20-size > 1460 {
		return api.Seg{}, api.ErrLong
	}
	return api.Seg{
		Src: api.Addr{IP: long(s, 12), Port: word(s, 20)}, Dst: api.Addr{IP: long(s, 16), Port: word(s, 22)},
		Seq: long(s, 24), Ack: long(s, 28), Flags: s[33], Window: word(s, 34), Opts: o, Data: s[20+size:],
	}, api.OK
}

// check checks what is read of s, and what becomes of it when it is turned.
func check(t *testing.T, s string) {
	t.Helper()
	want, wrong := meant(s)
	if x, e := pkt.Decode(s); e != wrong || !same(x, want) {
		t.Fatalf("Decode(%x..) of %d bytes = %#v, %v, not %#v, %v", begins(s), len(s), short(x), e, short(want), wrong)
	}
	for _, x := range []api.Shift{{}, shift} {
		checkRewrite(t, s, x)
	}
}

// read checks that s is read as a segment.
func read(t *testing.T, s string, want api.Seg) {
	t.Helper()
	if x, e := pkt.Decode(s); e != api.OK || !same(x, want) || !pkt.Same(x, want) {
		t.Fatalf("Decode(%x..) of %d bytes = %#v, %v, not %#v", begins(s), len(s), short(x), e, short(want))
	}
}

// refuse checks that s is neither read nor turned, and that nothing is told beside the error.
func refuse(t *testing.T, s string, want api.Errno) {
	t.Helper()
	if x, e := pkt.Decode(s); e != want || !same(x, api.Seg{}) {
		t.Fatalf("Decode(%x..) of %d bytes = %#v, %v, not %v", begins(s), len(s), short(x), e, want)
	}
	for _, x := range []api.Shift{{}, shift} {
		if p, e := pkt.Rewrite(s, x); p != "" || e != want {
			t.Fatalf("Rewrite(%x..) of %d bytes = %x.., %v, not %v", begins(s), len(s), begins(p), e, want)
		}
	}
}

// plain is a packet of which each part is right.
func plain() wire {
	s := api.Seg{Src: api.Addr{IP: one, Port: 4000}, Dst: api.Addr{IP: two, Port: 80}, Seq: 7, Ack: 9, Flags: 24, Window: 100, Opts: none, Data: "hello"}
	return own(s, "\x01\x01\x01\x00")
}

// P8.2: of several errors the first one is told: all sets of those of each layer.
func TestDecodeOrder(t *testing.T) {
	order := []api.Errno{api.ErrFragment, api.ErrProto, api.ErrSum, api.ErrOption, api.ErrFlags, api.ErrLong, api.OK}
	for set := range 64 {
		w, first := plain(), 0
		for set>>first&1 == 0 && first < 6 {
			first++
		}
		if set&1 != 0 {
			w.parts |= 0x2000
		}
		if set&2 != 0 {
			w.proto = 17
		}
		if set&8 != 0 {
			w.opts = "\x02\x04\x00\x00"
		}
		if set&16 != 0 {
			w.seg.Flags = api.FlagSYN | api.FlagFIN
		}
		if set&32 != 0 {
			w.seg.Data = strings.Repeat("z", api.MaxData+1)
		}
		s := w.bytes()
		if set&4 != 0 {
			s = with(s, 36, two16(word(s, 36)^1))
		}
		if order[first] == api.OK {
			read(t, s, w.seg)
		} else {
			refuse(t, s, order[first])
		}
	}
}

// wrong is a packet of which each part is wrong that is told behind its head's and its segment's own errors.
func wrong(proto byte) wire {
	w := plain()
	w.proto, w.opts, w.seg.Flags, w.seg.Data = proto, "\x02\x04\x00\x00", api.FlagSYN|api.FlagFIN, strings.Repeat("z", api.MaxData+1)
	return w
}

// P8.2: each error of ip.Decode is told ahead of Proto, and of all behind that.
func TestDecodeHeads(t *testing.T) {
	for _, s := range []string{plain().bytes(), wrong(17).bytes()} {
		for n := range api.IPHead {
			refuse(t, s[:n], api.ErrShort)
		}
		refuse(t, headSummed(with(s, 0, "\x55")), api.ErrVersion)
		refuse(t, headSummed(with(s, 0, "\x46")), api.ErrHead)
		for _, x := range []string{s + "\x00", s[:len(s)-1], s[:api.IPHead], s + s} {
			refuse(t, x, api.ErrLength)
		}
		refuse(t, with(s, 11, string([]byte{s[11] ^ 1})), api.ErrSum)
		for _, parts := range []uint16{1, 0x1fff, 0x2000, 0x8000, 0x4001, 0xffff} {
			refuse(t, headSummed(with(s, 6, two16(parts))), api.ErrFragment)
		}
	}
}

// P8.2: of the 256 values of Proto one is read; the others are told ahead of all that is wrong with the segment.
func TestDecodeProto(t *testing.T) {
	for n := range 256 {
		w := plain()
		w.proto = byte(n)
		if n == 6 {
			read(t, w.bytes(), w.seg)
			continue
		}
		refuse(t, w.bytes(), api.ErrProto)
		refuse(t, wrong(byte(n)).bytes(), api.ErrProto)
		refuse(t, headSummed(with(w.bytes()[:20], 2, "\x00\x14")), api.ErrProto)
		refuse(t, with(w.bytes(), 40, "\xff\xff"), api.ErrProto)
	}
}

// P8.2: each error of tcp.Decode is told ahead of the options, the flags and the data.
func TestDecodeSegments(t *testing.T) {
	for _, s := range []string{plain().bytes(), wrong(6).bytes()} {
		for n := api.IPHead; n < api.IPHead+api.TCPHead; n++ {
			refuse(t, summed(with(s[:n], 2, two16(uint16(n)))), api.ErrShort)
		}
		refuse(t, with(s, 37, string([]byte{s[37] ^ 1})), api.ErrSum)
		refuse(t, with(s, len(s)-1, string([]byte{s[len(s)-1] ^ 1})), api.ErrSum)
		refuse(t, summed(with(s, 32, "\x40")), api.ErrOffset)
		refuse(t, summed(with(s, 32, "\x61")), api.ErrReserved)
		refuse(t, summed(with(s, 33, "\x98")), api.ErrReserved)
		refuse(t, summed(with(s, 33, "\x43")), api.ErrReserved)
	}
	refuse(t, summed(with(plain().bytes(), 32, "\xf0")), api.ErrOffset)
}

// P8.2: the checksum is that of both addresses as well: a packet that goes elsewhere is another one.
func TestDecodeAnotherAddress(t *testing.T) {
	s := plain().bytes()
	for bit := range 64 {
		refuse(t, headSummed(turnedBit(s, 96+bit)), api.ErrSum)
	}
	// The same ones the other way round make the same sum.
	w := plain()
	w.seg.Src.IP, w.seg.Dst.IP = w.seg.Dst.IP, w.seg.Src.IP
	read(t, headSummed(with(with(s, 12, four(two)), 16, four(one))), w.seg)
}

// P8.2: what can't be options is refused, ahead of the flags and the data.
func TestDecodeRefusedOptions(t *testing.T) {
	for _, opts := range []string{"\x02\x04\x00\x00", "\x02\x03\x05\x00", "\x04\x02\x04\x02", "\x01\x01\x01\x02", "\x1e\x00\x00\x00", "\x03\x03\x07\x08", strings.Repeat("\x08\x0a\x00\x00\x00\x00\x00\x00\x00\x00", 4)} {
		for _, w := range []wire{plain(), wrong(6)} {
			w.opts = opts
			refuse(t, w.bytes(), api.ErrOption)
		}
	}
}

// P8.2: options are read as opt.Decode reads them, also those that are no segment's own.
func TestDecodeOptions(t *testing.T) {
	for _, x := range []struct {
		opts string
		want api.Opts
	}{
		{"", none},
		{"\x00\x02\x04\x00", none},
		{strings.Repeat("\x01", api.MaxOpts), none},
		{"\x03\x03\xff\x00", api.Opts{Scale: 14}},
		{"\x04\x02\x03\x03\x00\x00\x00\x00", api.Opts{Sack: true}},
		{"\x1e\x04\x08\x0a", none},
		{"\x08\x0a\x00\x00\x00\x01\x00\x00\x00\x02\x05\x1a" + strings.Repeat("\x00\x00\x00\x03", 6) + "\x04\x02\x01\x01", api.Opts{Scale: -1, Sack: true, Time: true, Val: 1, Echo: 2, Blocks: []api.Block{{From: 3, To: 3}, {From: 3, To: 3}, {From: 3, To: 3}}}},
	} {
		w := plain()
		w.opts, w.seg.Opts = x.opts, x.want
		read(t, w.bytes(), w.seg)
		w.seg.Data = strings.Repeat("z", api.MaxData)
		read(t, w.bytes(), w.seg)
		w.seg.Data += "z"
		refuse(t, w.bytes(), api.ErrLong)
	}
}

// P8.2, P8.3: a segment whose options would have too many bytes in its own packet is read, and turned where it stands.
func TestDecodeMore(t *testing.T) {
	w := plain()
	w.opts = "\x08\x0a\x00\x00\x00\x01\x00\x00\x00\x02\x02\x04\x05\xb4\x03\x03\x07\x04\x02\x05\x12\x00\x00\x00\x03\x00\x00\x00\x04\x00\x00\x00\x05\x00\x00\x00\x06\x00\x00\x00"
	s, e := pkt.Decode(w.bytes())
	if e != api.OK || len(s.Opts.Blocks) != 2 || pkt.May(s) {
		t.Errorf("%#v, %v; May %v", s, e, pkt.May(s))
	}
	refuseWrite(t, s)
	check(t, w.bytes())
}

// P8.2: of the 64 values of Flags that have a meaning just those are read that may be; the others are told ahead of the data.
func TestDecodeFlags(t *testing.T) {
	for n := range 256 {
		for _, data := range []string{"", "data", strings.Repeat("z", api.MaxData+1)} {
			w := plain()
			w.seg.Flags, w.seg.Data = uint8(n), data
			switch {
			case n > 63:
				refuse(t, w.bytes(), api.ErrReserved)
			case !slices.Contains(flagsThatMay, uint8(n)):
				refuse(t, w.bytes(), api.ErrFlags)
			case len(data) > api.MaxData:
				refuse(t, w.bytes(), api.ErrLong)
			default:
				read(t, w.bytes(), w.seg)
			}
		}
	}
}

// P8.2: data has at most MaxData bytes, without options and with as many as there may be; as many as go into a packet are too many.
func TestDecodeLong(t *testing.T) {
	for _, opts := range []string{"", "\x01\x01\x01\x00", strings.Repeat("\x01", api.MaxOpts)} {
		w := plain()
		w.opts = opts
		for _, n := range []int{0, 1, api.MaxData - 1, api.MaxData} {
			w.seg.Data = strings.Repeat("z", n)
			read(t, w.bytes(), w.seg)
		}
		for _, n := range []int{api.MaxData + 1, api.MaxData + 2, 4 * api.MaxData, 1 << 15, api.MaxPacket - 40 - len(opts)} {
			w.seg.Data = strings.Repeat("z", n)
			refuse(t, w.bytes(), api.ErrLong)
		}
	}
}

// P8.2: what else the heads have is not told: TOS, ID, DF, TTL, and Urgent.
func TestDecodeElse(t *testing.T) {
	for n := range 65536 {
		w := plain()
		w.tos, w.ttl, w.id, w.urgent, w.parts = byte(n), byte(n>>8), uint16(n), ^uint16(n), uint16(n%2)<<14
		read(t, w.bytes(), w.seg)
	}
}

// P8.2: a checksum that is 0 is also read with 65,535 in its place, as layers 5 and 6 do.
func TestDecodeSums(t *testing.T) {
	for _, x := range zeroSums() {
		for _, at := range []int{10, 36} {
			if word(x.bytes(), at) == 0 {
				read(t, with(x.bytes(), at, "\xff\xff"), x.seg)
			}
		}
	}
}

// P8.4: a packet of which one bit is turned is not read: in the segment, and behind a head that is right else, that is ErrSum.
func TestOneBit(t *testing.T) {
	for _, x := range examples() {
		for bit := range 8 * len(x.want) {
			s := turnedBit(x.want, bit)
			_, e := meant(s)
			if e == api.OK {
				t.Fatalf("%x: bit %d can't be seen", x.want, bit)
			}
			refuse(t, s, e)
			if at := bit / 8; at >= 4 {
				refuse(t, s, api.ErrSum)
			}
		}
	}
}

// P8.4: a packet that is cut off, anywhere, is not read, nor is one that is longer.
func TestCutOrLonger(t *testing.T) {
	for _, x := range examples() {
		for n := range len(x.want) {
			_, e := meant(x.want[:n])
			refuse(t, x.want[:n], e)
			if n > 4 {
				check(t, summed(with(x.want[:max(n, 20)], 2, two16(uint16(max(n, 20))))))
			}
		}
		for _, more := range []string{"\x00", "x", "\xff\xff", x.want} {
			refuse(t, x.want+more, api.ErrLength)
		}
	}
}

// P8.2, P8.3: each byte of a packet at each of its values, with the checksums that were there, with its head's own, and with both, as the chapter tells it.
func TestDecodeEachByte(t *testing.T) {
	for _, x := range foreign() {
		s := x.bytes()
		if x.seg.Data == "" || len(s) > 100 {
			continue
		}
		for at := range len(s) {
			for n := range 256 {
				now := with(s, at, string([]byte{byte(n)}))
				check(t, now)
				check(t, summed(now))
				if at < api.IPHead {
					check(t, headSummed(now))
				}
			}
		}
	}
}

// P8.2, P8.3, R1: bytes of any kind, with any checksums and with right ones, are read or refused as the chapter tells it.
func TestDecodeAnything(t *testing.T) {
	n, reads := uint32(1), 0
	next := func(below int) int {
		n = n*1664525 + 1013904223
		return int(n>>8) % below
	}
	for range 20000 {
		b := make([]byte, next(90))
		for i := range b {
			b[i] = byte(next(256))
		}
		check(t, string(b))
		if len(b) < 20 {
			continue
		}
		// Just as much is set right as lets some of them through.
		copy(b, "\x45\x00"+two16(uint16(len(b)))+"\x00\x00\x40\x00\x40\x06")
		check(t, summed(string(b)))
		if len(b) >= 40 {
			b[32], b[33] = byte(5+next(3))<<4, flagsThatMay[next(16)]
			copy(b[40:], "\x01\x01\x01\x00")
		}
		check(t, summed(string(b)))
		if _, e := pkt.Decode(summed(string(b))); e == api.OK {
			reads++
		}
	}
	if reads < 1000 || reads > 19000 {
		t.Errorf("%d are read", reads)
	}
	for _, s := range []string{"", "\x45", strings.Repeat("\x00", 20), strings.Repeat("\xff", 40), strings.Repeat("\x45", math.MaxUint16+1)} {
		check(t, s)
	}
}
