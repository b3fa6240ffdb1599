package pkt_test

import (
	"math"
	"slices"
	"strings"
	"testing"

	"transom/api"
	"transom/opt"
	"transom/pkt"
)

// shift is one of which each number is another one.
var shift = api.Shift{Src: api.Addr{IP: 1, Port: 2}, Dst: api.Addr{IP: 3, Port: 4}, Seq: 10, Ack: 20, Val: 30, Echo: 40, Up: 3, Down: 1}

// shifts is shifts by nothing, by each number alone, and by numbers at the edges.
func shifts() []api.Shift {
	all := api.Addr{IP: top, Port: math.MaxUint16}
	l := []api.Shift{
		{}, shift,
		{Src: api.Addr{IP: one, Port: 4000}, Dst: api.Addr{IP: two, Port: 80}},
		{Src: api.Addr{IP: two, Port: 80}, Dst: api.Addr{IP: one, Port: 4000}, Seq: 1 << 31, Ack: 1 << 31},
		{Src: all, Dst: all, Seq: top, Ack: top, Val: top, Echo: top, Up: 14},
		{Src: all, Seq: 0xffff, Ack: 0x10000, Val: 0x01020304, Echo: 0xfffefdfc, Up: 14, Down: 14},
		{Dst: all, Down: 14},
		{Up: -1, Down: 15},
		{Up: 15, Down: -1},
	}
	for _, n := range []uint32{1, 256, 0x7fffffff, top} {
		l = append(l, api.Shift{Seq: n}, api.Shift{Ack: n}, api.Shift{Val: n}, api.Shift{Echo: n}, api.Shift{Src: api.Addr{IP: n}}, api.Shift{Dst: api.Addr{IP: n}}, api.Shift{Src: api.Addr{Port: uint16(n)}}, api.Shift{Dst: api.Addr{Port: uint16(n)}})
	}
	return l
}

// foreign is packets that are read, and are no segment's own, with bytes that stand as they were when they are turned.
func foreign() []wire {
	l := []wire{plain(), zeroSums()[0], zeroSums()[1]}
	for _, opts := range []string{
		"\x01\x08\x0a\x00\x00\x00\x05\xff\xff\xff\xff\x1e\x03\x07\x03\x03\x63\x00\x09\x05",
		"\x08\x0a\x01\x02\x03\x04\xff\xfe\xfd\xfc\x04\x02",
		"\x01\x05\x12\x00\x00\x00\x00\x00\x00\x00\x01\xff\xff\xff\xff\x80\x00\x00\x00\x01",
		"\x1e\x0c\x05\x0a\x00\x00\x00\x01\x00\x00\x00\x02",
		"\x00\x08\x0a\x00\x00\x00\x01\x00\x00\x00\x02\xff",
		"\x05\x22" + strings.Repeat("\x01\x02\x03\x04", 8) + "\x02\x04\x05\xb4\x01\x00",
	} {
		for _, data := range []string{"", "odd", strings.Repeat("\xa5", api.MaxData)} {
			w := plain()
			w.opts, w.seg.Data = opts, data
			w.tos, w.ttl, w.id, w.parts, w.urgent = 5, 6, 7, 0, 8
			l = append(l, w)
		}
	}
	return l
}

// zeroSums is packets of which a checksum is 0: the head's, the segment's, both.
func zeroSums() []wire {
	head := plain()
	head.id = word(head.bytes(), 10)
	segment := plain()
	segment.urgent = word(segment.bytes(), 36)
	both := segment
	both.id = word(both.bytes(), 10)
	return []wire{head, segment, both}
}

// meantWindow is a window, times 2^up, divided by 2^down, as the chapter tells it.
func meantWindow(w uint16, up, down int) uint16 {
	n := uint64(w)
	for i := 0; i < up && i < 14; i++ {
		n *= 2
	}
	by := uint64(1)
	for i := 0; i < down && i < 14; i++ {
		by *= 2
	}
	if n /= by; n > 65535 {
		return 65535
	}
	return uint16(n)
}

// meantTurned is a segment that is turned, as the chapter tells it.
func meantTurned(s api.Seg, x api.Shift) api.Seg {
	now := api.Seg{Src: x.Src, Dst: x.Dst, Seq: s.Seq + x.Seq, Ack: s.Ack, Flags: s.Flags, Window: meantWindow(s.Window, x.Up, x.Down), Opts: s.Opts, Data: s.Data}
	if s.Flags/16%2 == 1 {
		now.Ack = s.Ack + x.Ack
	}
	now.Opts.Blocks = nil
	for _, b := range s.Opts.Blocks {
		now.Opts.Blocks = append(now.Opts.Blocks, api.Block{From: b.From + x.Ack, To: b.To + x.Ack})
	}
	if s.Opts.Time {
		now.Opts.Val, now.Opts.Echo = s.Opts.Val+x.Val, s.Opts.Echo+x.Echo
	}
	return now
}

// meantSum is what a checksum becomes of which the words were those of one text, and are those of another one, as chapter 3 tells it.
func meantSum(sum uint16, was, now string) uint16 {
	for i := 0; i < len(was); i += 2 {
		n := 65535 - int(sum) + 65535 - int(word(was, i)) + int(word(now, i))
		for n > 65535 {
			n = n%65536 + n/65536
		}
		sum = uint16(65535 - n)
	}
	return sum
}

// meantRewrite is what Rewrite answers, as the chapter tells it.
func meantRewrite(s string, x api.Shift) (string, api.Errno) {
	seg, e := meant(s)
	if e != api.OK {
		return "", e
	}
	now, opts := meantTurned(seg, x), s[40:len(s)-len(seg.Data)]
	other, _ := opt.Turn(opts, x.Ack, x.Val, x.Echo)
	is := with(s, 12, four(now.Src.IP)+four(now.Dst.IP)+two16(now.Src.Port)+two16(now.Dst.Port)+four(now.Seq)+four(now.Ack))
	is = with(with(is, 34, two16(now.Window)), 40, other)
	words := func(p string) string { return p[12:32] + p[34:36] + p[40:40+len(opts)] }
	is = with(is, 10, two16(meantSum(word(s, 10), s[12:20], is[12:20])))
	return with(is, 36, two16(meantSum(word(s, 36), words(s), words(is)))), api.OK
}

// checkRewrite checks what becomes of s when it is turned, and that this is read as the segment, turned.
func checkRewrite(t *testing.T, s string, x api.Shift) {
	t.Helper()
	want, wrong := meantRewrite(s, x)
	p, e := pkt.Rewrite(s, x)
	if p != want || e != wrong {
		t.Fatalf("Rewrite(%x.., %#v) = %x.., %v, not %x.., %v", begins(s), x, begins(p), e, begins(want), wrong)
	}
	if e == api.OK {
		seg, _ := meant(s)
		read(t, p, meantTurned(seg, x))
	}
}

// checkTurned checks what a segment is that is turned.
func checkTurned(t *testing.T, s api.Seg, x api.Shift) {
	t.Helper()
	if got, want := pkt.Turned(s, x), meantTurned(s, x); !same(got, want) {
		t.Fatalf("Turned(%#v, %#v) = %#v, not %#v", short(s), x, short(got), short(want))
	}
}

// P8.3: segments turned by hand: each number by what is its own; they go around at 2^32.
func TestTurned(t *testing.T) {
	a, b := api.Addr{IP: 1, Port: 2}, api.Addr{IP: 3, Port: 4}
	for _, x := range []struct {
		s    api.Seg
		by   api.Shift
		want api.Seg
	}{
		{api.Seg{Opts: none}, api.Shift{}, api.Seg{Opts: none}},
		{api.Seg{Src: b, Dst: a, Seq: 7, Ack: 9, Flags: 16, Window: 100, Opts: none, Data: "hello"}, shift, api.Seg{Src: a, Dst: b, Seq: 17, Ack: 29, Flags: 16, Window: 400, Opts: none, Data: "hello"}},
		{api.Seg{Seq: top, Ack: top, Flags: 17, Window: 101, Opts: none}, api.Shift{Seq: 1, Ack: 3, Down: 1}, api.Seg{Seq: 0, Ack: 2, Flags: 17, Window: 50, Opts: none}},
		// Without the flag Ack stands as it was.
		{api.Seg{Seq: top, Ack: 5, Flags: 2, Opts: api.Opts{MSS: 1460, Scale: 7, Sack: true}}, shift, api.Seg{Src: a, Dst: b, Seq: 9, Ack: 5, Flags: 2, Opts: api.Opts{MSS: 1460, Scale: 7, Sack: true}}},
		// Blocks are turned by Ack's number with the flag, and without it.
		{api.Seg{Flags: 16, Opts: api.Opts{Scale: -1, Blocks: []api.Block{{From: top, To: 5}, {To: top - 19}}}}, api.Shift{Seq: 7, Ack: 20, Val: 8, Echo: 9}, api.Seg{Seq: 7, Ack: 20, Flags: 16, Opts: api.Opts{Scale: -1, Blocks: []api.Block{{From: 19, To: 25}, {From: 20, To: 0}}}}},
		{api.Seg{Opts: api.Opts{Scale: -1, Blocks: []api.Block{{From: 1, To: 2}}}}, api.Shift{Ack: 20}, api.Seg{Opts: api.Opts{Scale: -1, Blocks: []api.Block{{From: 21, To: 22}}}}},
		// Times are turned if they are there, each by its own number.
		{api.Seg{Opts: api.Opts{Scale: -1, Time: true, Val: top, Echo: top}}, api.Shift{Seq: 5, Ack: 6, Val: 2, Echo: 3}, api.Seg{Seq: 5, Opts: api.Opts{Scale: -1, Time: true, Val: 1, Echo: 2}}},
		{api.Seg{Opts: none}, api.Shift{Val: 2, Echo: 3}, api.Seg{Opts: none}},
	} {
		if got := pkt.Turned(x.s, x.by); !same(got, x.want) {
			t.Errorf("Turned(%#v, %#v) = %#v, not %#v", x.s, x.by, got, x.want)
		}
	}
}

// P8.3: segments of all sorts, turned by shifts of all sorts, also such as may not be.
func TestTurnedAll(t *testing.T) {
	for _, s := range append(segments(), misfits()...) {
		for _, x := range shifts() {
			checkTurned(t, s, x)
		}
	}
	checkTurned(t, api.Seg{Flags: 255, Ack: 1, Opts: api.Opts{Scale: 99, Val: 5, Echo: 6, Blocks: make([]api.Block, 9)}, Data: strings.Repeat("z", 1<<16)}, shift)
}

// P8.3: a window is turned upwards, then downwards; what is lost below is lost, and what is above 65,535 is that.
func TestWindow(t *testing.T) {
	for _, x := range []struct {
		w        uint16
		up, down int
		want     uint16
	}{
		{100, 0, 0, 100}, {100, 3, 1, 400}, {100, 1, 3, 25}, {7, 0, 1, 3}, {7, 1, 2, 3}, {1, 0, 14, 0}, {0, 14, 0, 0},
		{math.MaxUint16, 0, 14, 3}, {math.MaxUint16, 14, 14, math.MaxUint16}, {math.MaxUint16, 13, 14, 32767}, {math.MaxUint16, 14, 13, math.MaxUint16},
		{32767, 1, 0, 65534}, {32768, 1, 0, math.MaxUint16}, {3, 14, 0, 49152}, {4, 14, 0, math.MaxUint16},
		// What is outside counts as the nearer end.
		{100, -1, -1, 100}, {100, math.MinInt, math.MinInt, 100}, {3, 15, 0, 49152}, {3, math.MaxInt, 0, 49152}, {math.MaxUint16, 0, 15, 3}, {math.MaxUint16, 0, math.MaxInt, 3},
		{100, math.MaxInt, math.MaxInt, 100}, {100, 256, 256, 100}, {100, 1 << 32, 1 << 32, 100}, {3, 1 << 32, 0, 49152}, {100, -1 << 32, 1, 50},
	} {
		if got := pkt.Turned(api.Seg{Window: x.w}, api.Shift{Up: x.up, Down: x.down}).Window; got != x.want {
			t.Errorf("%d, %d bits upwards, %d downwards: %d, not %d", x.w, x.up, x.down, got, x.want)
		}
	}
	edges := []uint16{0, 1, 2, 3, 4, 5, 255, 256, 1000, 32767, 32768, 65534, 65535}
	for up := -3; up < 20; up++ {
		for down := -3; down < 20; down++ {
			for _, w := range edges {
				checkTurned(t, api.Seg{Window: w}, api.Shift{Up: up, Down: down})
			}
		}
	}
	for w := range 65536 {
		checkTurned(t, api.Seg{Window: uint16(w)}, api.Shift{Up: 5, Down: 2})
		checkTurned(t, api.Seg{Window: uint16(w)}, api.Shift{Up: 2, Down: 7})
	}
}

// P8.3: packets turned by hand: a segment's own, and one with bytes that stand as they were.
func TestRewritten(t *testing.T) {
	for _, x := range []struct{ s, want string }{
		{examples()[2].want,
			"\x45\x00\x00\x45\x00\x00\x40\x00\x40\x06\x3a\xb0\x00\x00\x00\x01\x00\x00\x00\x03" +
				"\x00\x02\x00\x04\x00\x00\x00\x11\x00\x00\x00\x1d\xb0\x18\x01\x90\xfa\x86\x00\x00" +
				"\x01\x01\x08\x0a\x00\x00\x00\x1f\x00\x00\x00\x2a\x01\x01\x05\x0a\x00\x00\x00\x17\x00\x00\x00\x19hello"},
		{"\x45\x05\x00\x3f\x00\x07\x00\x00\x06\x06\xa0\xab\x0a\x00\x00\x01\x0a\x00\x00\x02" +
			"\x0f\xa0\x00\x50\x00\x00\x00\x07\x00\x00\x00\x09\xa0\x10\x00\x03\xe6\x15\x00\x08" +
			"\x01\x08\x0a\x00\x00\x00\x05\xff\xff\xff\xff\x1e\x03\x07\x03\x03\x63\x00\x09\x05odd",
			"\x45\x05\x00\x3f\x00\x07\x00\x00\x06\x06\xb4\xaa\x00\x00\x00\x01\x00\x00\x00\x03" +
				"\x00\x02\x00\x04\x00\x00\x00\x11\x00\x00\x00\x1d\xa0\x10\x00\x0c\xc4\xd7\x00\x08" +
				"\x01\x08\x0a\x00\x00\x00\x23\x00\x00\x00\x27\x1e\x03\x07\x03\x03\x63\x00\x09\x05odd"},
	} {
		if p, e := pkt.Rewrite(x.s, shift); p != x.want || e != api.OK {
			t.Errorf("Rewrite(%x) = %x, %v, not %x", x.s, p, e, x.want)
		}
	}
}

// P8.3: packets of all sorts, turned by shifts of all sorts: each byte is as the chapter tells it.
func TestRewriteForeign(t *testing.T) {
	for _, w := range foreign() {
		for _, x := range shifts() {
			checkRewrite(t, w.bytes(), x)
		}
	}
}

// P8.3: checksums are turned along word by word, not made anew: where one is 65,535 for 0, words that stay the same make it 0.
func TestRewriteSums(t *testing.T) {
	for _, w := range zeroSums() {
		stay := api.Shift{Src: w.seg.Src, Dst: w.seg.Dst}
		if p, e := pkt.Rewrite(w.bytes(), stay); p != w.bytes() || e != api.OK {
			t.Errorf("%x, turned by nothing, is %x, %v", w.bytes(), p, e)
		}
		for _, at := range []int{10, 36} {
			if word(w.bytes(), at) != 0 {
				continue
			}
			s := with(w.bytes(), at, "\xff\xff")
			if p, e := pkt.Rewrite(s, stay); p != w.bytes() || e != api.OK {
				t.Errorf("%x, turned by nothing, is %x, %v", s, p, e)
			}
			for _, x := range shifts() {
				checkRewrite(t, s, x)
			}
		}
	}
}

// P8.3: of a head's checksum 65,535 that stays which is of words 65,535 that become 0, and of nothing else.
func TestRewriteSumStays(t *testing.T) {
	w := plain()
	w.seg.Src.IP, w.seg.Dst.IP = top, top
	w.id = word(w.bytes(), 10)
	s := with(w.bytes(), 10, "\xff\xff")
	for _, x := range []struct {
		src, dst uint32
		want     uint16
	}{{0, 0, 0xffff}, {0, 0xffff, 0}, {0xffff0000, 0, 0}, {top, top, 0}, {0, 1, 0xfffe}, {1, 0, 0xfffe}} {
		by := api.Shift{Src: api.Addr{IP: x.src}, Dst: api.Addr{IP: x.dst}}
		p, e := pkt.Rewrite(s, by)
		if e != api.OK || word(p, 10) != x.want {
			t.Errorf("to %x, %x: %x, %v, not %x", x.src, x.dst, p, e, x.want)
		}
		checkRewrite(t, s, by)
	}
}

// P8.3: what can't be read can't be turned, by whatever shift: the error is Decode's.
func TestRewriteRefused(t *testing.T) {
	s := plain().bytes()
	fin := plain()
	fin.seg.Flags = api.FlagFIN | api.FlagRST
	for _, x := range []struct {
		s    string
		want api.Errno
	}{
		{"", api.ErrShort},
		{s + "x", api.ErrLength},
		{with(s, 45, "x"), api.ErrSum},
		{wrong(17).bytes(), api.ErrProto},
		{wrong(6).bytes(), api.ErrOption},
		{fin.bytes(), api.ErrFlags},
		{own(api.Seg{Data: strings.Repeat("z", api.MaxData+1)}, "").bytes(), api.ErrLong},
	} {
		for _, by := range shifts() {
			if p, e := pkt.Rewrite(x.s, by); p != "" || e != x.want {
				t.Errorf("Rewrite(%x..) = %x.., %v, not %v", begins(x.s), begins(p), e, x.want)
			}
		}
	}
}

// P8.4: a segment's own packet, rewritten, is that of the segment, turned, byte by byte, and is read as that.
func TestRewrittenIsTurned(t *testing.T) {
	for _, s := range segments() {
		p, e := pkt.Encode(s)
		if e != api.OK {
			t.Fatalf("Encode(%#v): %v", short(s), e)
		}
		for _, x := range shifts() {
			now := pkt.Turned(s, x)
			want, e := pkt.Encode(now)
			if q, err := pkt.Rewrite(p, x); q != want || e != api.OK || err != api.OK {
				t.Fatalf("Rewrite(%x.., %#v) = %x.., %v, not %x.., %v", begins(p), x, begins(q), err, begins(want), e)
			}
			read(t, want, now)
		}
	}
}

// P8.4: the same of segments and shifts of any numbers.
func TestRewrittenIsTurnedAnything(t *testing.T) {
	n := uint32(1)
	next := func() uint32 {
		n = n*1664525 + 1013904223
		return n>>16 | n<<16
	}
	for i := range 20000 {
		s := api.Seg{Src: api.Addr{IP: next(), Port: uint16(next())}, Dst: api.Addr{IP: next(), Port: uint16(next())}, Seq: next(), Ack: next(), Flags: flagsThatMay[i%16], Window: uint16(next()), Opts: options()[i%8], Data: strings.Repeat("\x00\xffz", i%50)}
		x := api.Shift{Src: api.Addr{IP: next(), Port: uint16(next())}, Dst: api.Addr{IP: next(), Port: uint16(next())}, Seq: next(), Ack: next(), Val: next(), Echo: next(), Up: int(next() % 17), Down: int(next() % 17)}
		p, _ := pkt.Encode(s)
		want, _ := pkt.Encode(meantTurned(s, x))
		if q, e := pkt.Rewrite(p, x); q != want || e != api.OK {
			t.Fatalf("Rewrite(%x, %#v) = %x, %v, not %x", p, x, q, e, want)
		}
		checkTurned(t, s, x)
	}
}

// R5: an answer's blocks are its own, and what is handed in stays as it is.
func TestOwnMemory(t *testing.T) {
	blocks := []api.Block{{From: 1, To: 2}, {From: 3, To: 4}}
	was := slices.Clone(blocks)
	for _, x := range []api.Shift{{}, shift} {
		s := api.Seg{Flags: 16, Opts: api.Opts{Scale: -1, Blocks: blocks}}
		a := pkt.Turned(s, x)
		if !slices.Equal(blocks, was) || s.Seq != 0 {
			t.Errorf("%#v, turned by %#v, is another one", s, x)
		}
		a.Opts.Blocks[0].From = 9
		_ = append(a.Opts.Blocks[:1], api.Block{From: 8})
		if !slices.Equal(blocks, was) {
			t.Errorf("an answer's blocks are those of the argument: %v", blocks)
		}
		p, _ := pkt.Encode(s)
		b, _ := pkt.Decode(p)
		b.Opts.Blocks[0].From = 7
		if c, _ := pkt.Decode(p); !slices.Equal(c.Opts.Blocks, was) || !slices.Equal(blocks, was) {
			t.Errorf("two answers share their blocks: %v", c.Opts.Blocks)
		}
	}
}
