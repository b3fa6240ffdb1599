package opt_test

import (
	"math"
	"reflect"
	"strings"
	"testing"

	"transom/api"
	"transom/opt"
)

const top = math.MaxUint32

// none is the options of which none is there.
var none = api.Opts{Scale: -1}

// example is options whose bytes the test of P7.1 and P7.2 tells by hand.
type example struct {
	o api.Opts
	s string
}

// examples is the chapter's examples, each option alone and at its edges, and some together.
func examples() []example {
	return []example{
		{none, ""},
		{api.Opts{MSS: 1460, Scale: 7, Sack: true}, "\x02\x04\x05\xb4\x01\x03\x03\x07\x01\x01\x04\x02"},
		{api.Opts{Scale: -1, Blocks: []api.Block{{From: 1, To: 3}}}, "\x01\x01\x05\x0a\x00\x00\x00\x01\x00\x00\x00\x03"},
		{api.Opts{Scale: -1, MSS: 1}, "\x02\x04\x00\x01"},
		{api.Opts{Scale: -1, MSS: 0x0203}, "\x02\x04\x02\x03"},
		{api.Opts{Scale: -1, MSS: math.MaxUint16}, "\x02\x04\xff\xff"},
		{api.Opts{}, "\x01\x03\x03\x00"},
		{api.Opts{Scale: 14}, "\x01\x03\x03\x0e"},
		{api.Opts{Scale: -1, Sack: true}, "\x01\x01\x04\x02"},
		{api.Opts{Scale: -1, Time: true}, "\x01\x01\x08\x0a\x00\x00\x00\x00\x00\x00\x00\x00"},
		{api.Opts{Scale: -1, Time: true, Val: 0x01020304, Echo: 0x05060708}, "\x01\x01\x08\x0a\x01\x02\x03\x04\x05\x06\x07\x08"},
		{api.Opts{Scale: -1, Time: true, Val: top}, "\x01\x01\x08\x0a\xff\xff\xff\xff\x00\x00\x00\x00"},
		{api.Opts{Scale: -1, Time: true, Echo: top}, "\x01\x01\x08\x0a\x00\x00\x00\x00\xff\xff\xff\xff"},
		{api.Opts{Scale: -1, Blocks: []api.Block{{}}}, "\x01\x01\x05\x0a\x00\x00\x00\x00\x00\x00\x00\x00"},
		{api.Opts{Scale: -1, Blocks: []api.Block{{From: top}, {To: top}}}, "\x01\x01\x05\x12\xff\xff\xff\xff\x00\x00\x00\x00\x00\x00\x00\x00\xff\xff\xff\xff"},
		{api.Opts{Scale: -1, Blocks: []api.Block{{From: 5, To: 4}, {From: 3, To: 2}, {From: 3, To: 2}}}, "\x01\x01\x05\x1a\x00\x00\x00\x05\x00\x00\x00\x04\x00\x00\x00\x03\x00\x00\x00\x02\x00\x00\x00\x03\x00\x00\x00\x02"},
		{api.Opts{Scale: -1, Blocks: []api.Block{{From: 0x01020304, To: 0x05060708}, {From: 0x090a0b0c, To: 0x0d0e0f10}, {From: 0x11121314, To: 0x15161718}, {From: 0x191a1b1c, To: 0x1d1e1f20}}},
			"\x01\x01\x05\x22\x01\x02\x03\x04\x05\x06\x07\x08\x09\x0a\x0b\x0c\x0d\x0e\x0f\x10\x11\x12\x13\x14\x15\x16\x17\x18\x19\x1a\x1b\x1c\x1d\x1e\x1f\x20"},
		// All together, with as many blocks as there is room for.
		{api.Opts{MSS: 536, Scale: 1, Sack: true, Time: true, Val: 2, Echo: 3, Blocks: []api.Block{{From: 4, To: 5}}},
			"\x02\x04\x02\x18\x01\x03\x03\x01\x01\x01\x04\x02\x01\x01\x08\x0a\x00\x00\x00\x02\x00\x00\x00\x03\x01\x01\x05\x0a\x00\x00\x00\x04\x00\x00\x00\x05"},
		// Just MaxOpts bytes.
		{api.Opts{Scale: -1, Time: true, Val: 1, Echo: 2, Blocks: []api.Block{{From: 3, To: 4}, {From: 5, To: 6}, {From: 7, To: 8}}},
			"\x01\x01\x08\x0a\x00\x00\x00\x01\x00\x00\x00\x02\x01\x01\x05\x1a\x00\x00\x00\x03\x00\x00\x00\x04\x00\x00\x00\x05\x00\x00\x00\x06\x00\x00\x00\x07\x00\x00\x00\x08"},
	}
}

// some is options of all sorts: those that may be, those at each edge, and those beside it.
func some() []api.Opts {
	all := []api.Block{{From: 1, To: top}, {From: 0x80000000, To: 0x7fffffff}, {}, {From: 0x01020304, To: 0x05060708}, {From: 9, To: 9}}
	var l []api.Opts
	for _, mss := range []uint16{0, 1, 0xff, 0x100, 1460, math.MaxUint16} {
		for scale := -2; scale <= 15; scale++ {
			for n := range len(all) + 1 {
				for _, sack := range []bool{false, true} {
					o := api.Opts{MSS: mss, Scale: scale, Sack: sack, Blocks: all[:n]}
					t := o
					t.Time, t.Val, t.Echo = true, uint32(scale), uint32(n)
					l = append(l, o, t)
				}
			}
		}
	}
	return l
}

// four is the bytes of a number.
func four(n uint32) string {
	return string([]byte{byte(n >> 24), byte(n >> 16), byte(n >> 8), byte(n)})
}

// meantBytes is the bytes of options, as the chapter tells them.
func meantBytes(o api.Opts) string {
	s := ""
	if o.MSS != 0 {
		s += "\x02\x04" + string([]byte{byte(o.MSS / 256), byte(o.MSS % 256)})
	}
	if o.Scale != -1 {
		s += "\x01\x03\x03" + string([]byte{byte(o.Scale)})
	}
	if o.Sack {
		s += "\x01\x01\x04\x02"
	}
	if o.Time {
		s += "\x01\x01\x08\x0a" + four(o.Val) + four(o.Echo)
	}
	if n := len(o.Blocks); n > 0 {
		s += "\x01\x01\x05" + string([]byte{byte(2 + 8*n)})
		for _, b := range o.Blocks {
			s += four(b.From) + four(b.To)
		}
	}
	return s
}

// meantMay tells whether options may be, as the chapter tells it.
func meantMay(o api.Opts) bool {
	if o.Scale < -1 || o.Scale > 14 || len(o.Blocks) > 4 {
		return false
	}
	if !o.Time && (o.Val != 0 || o.Echo != 0) {
		return false
	}
	return len(meantBytes(o)) <= 40
}

// lengths is how long an option of each known kind may be.
var lengths = map[byte][]int{2: {4}, 3: {3}, 4: {2}, 5: {10, 18, 26, 34}, 8: {10}}

// mayBeLong tells whether an option of a kind may be so long.
func mayBeLong(kind byte, n int) bool {
	l, known := lengths[kind]
	for _, x := range l {
		if x == n {
			return true
		}
	}
	return !known && n >= 2
}

// number is the number of four bytes that stands in s at a place.
func number(s string, at int) uint32 {
	return uint32(s[at])<<24 | uint32(s[at+1])<<16 | uint32(s[at+2])<<8 | uint32(s[at+3])
}

// meant is what Decode answers, and how much is added at which place by Turn, as the chapter tells both.
func meant(s string, blocks, val, echo uint32) (o api.Opts, add map[int]uint32, e api.Errno) {
	if len(s) > 40 {
		return api.Opts{}, nil, api.ErrLong
	}
	o, add = none, map[int]uint32{}
	seen := map[byte]bool{}
	for at := 0; at < len(s) && s[at] != 0; {
		kind := s[at]
		if kind == 1 {
			at++
			continue
		}
		if at+1 == len(s) {
			return api.Opts{}, nil, api.ErrOption
		}
		n := int(s[at+1])
		if !mayBeLong(kind, n) || at+n > len(s) || lengths[kind] != nil && seen[kind] {
			return api.Opts{}, nil, api.ErrOption
		}
		seen[kind] = true
		switch kind {
		case 2:
			o.MSS = uint16(s[at+2])*256 + uint16(s[at+3])
			if o.MSS == 0 {
				return api.Opts{}, nil, api.ErrOption
			}
		case 3:
			o.Scale = int(s[at+2])
			if o.Scale > 14 {
				o.Scale = 14
			}
		case 4:
			o.Sack = true
		case 5:
			for i := at + 2; i < at+n; i += 8 {
				o.Blocks = append(o.Blocks, api.Block{From: number(s, i), To: number(s, i+4)})
				add[i], add[i+4] = blocks, blocks
			}
		case 8:
			o.Time, o.Val, o.Echo = true, number(s, at+2), number(s, at+6)
			add[at+2], add[at+6] = val, echo
		}
		at += n
	}
	return o, add, api.OK
}

// with is s with other bytes at a place.
func with(s string, at int, b string) string {
	return s[:at] + b + s[at+len(b):]
}

// same tells whether two options are the same, a list that is nil and one without elements alike.
func same(a, b api.Opts) bool {
	if len(a.Blocks) == 0 && len(b.Blocks) == 0 {
		a.Blocks, b.Blocks = nil, nil
	}
	return reflect.DeepEqual(a, b)
}

// turns is by how much Turn is asked to turn: by nothing, each alone, to the same number from the other side, and round.
func turns() [][3]uint32 {
	return [][3]uint32{{0, 0, 0}, {1, 0, 0}, {0, 1, 0}, {0, 0, 1}, {1, 2, 3}, {top, top, top}, {0x80000000, 0x7fffffff, 0x80000001}, {0x01020304, 0xfffefdfc, 0x00ff00ff}, {256, 65536, 1 << 24}}
}

// check checks what is read of s, and what becomes of it when it is turned.
func check(t *testing.T, s string) {
	t.Helper()
	want, _, wrong := meant(s, 0, 0, 0)
	if o, e := opt.Decode(s); e != wrong || !same(o, want) {
		t.Fatalf("Decode(%x) = %+v, %v, not %+v, %v", s, o, e, want, wrong)
	}
	for _, by := range turns() {
		_, add, _ := meant(s, by[0], by[1], by[2])
		now := s
		for at, n := range add {
			now = with(now, at, four(number(s, at)+n))
		}
		if wrong != api.OK {
			now = ""
		}
		if x, e := opt.Turn(s, by[0], by[1], by[2]); x != now || e != wrong {
			t.Fatalf("Turn(%x, %x) = %x, %v, not %x, %v", s, by, x, e, now, wrong)
		}
	}
}

// read checks that s is read as o.
func read(t *testing.T, s string, o api.Opts) {
	t.Helper()
	if x, e := opt.Decode(s); e != api.OK || !same(x, o) {
		t.Fatalf("Decode(%x) = %+v, %v, not %+v", s, x, e, o)
	}
	check(t, s)
}

// refuse checks that s is neither read nor turned, and that nothing is told beside the error.
func refuse(t *testing.T, s string, want api.Errno) {
	t.Helper()
	if o, e := opt.Decode(s); e != want || !same(o, api.Opts{}) {
		t.Fatalf("Decode(%x) = %+v, %v, not %v", s, o, e, want)
	}
	if x, e := opt.Turn(s, 1, 2, 3); x != "" || e != want {
		t.Fatalf("Turn(%x) = %x, %v, not %v", s, x, e, want)
	}
	check(t, s)
}

// write checks what May and Encode answer.
func write(t *testing.T, o api.Opts) {
	t.Helper()
	s, e, may := meantBytes(o), api.OK, meantMay(o)
	if !may {
		s, e = "", api.ErrArg
	}
	if got := opt.May(o); got != may {
		t.Fatalf("May(%+v) = %v", o, got)
	}
	if x, err := opt.Encode(o); x != s || err != e {
		t.Fatalf("Encode(%+v) = %x, %v, not %x, %v", o, x, err, s, e)
	}
}

// refuseWrite checks that options may not be, and that nothing is told beside the error.
func refuseWrite(t *testing.T, o api.Opts) {
	t.Helper()
	if s, e := opt.Encode(o); opt.May(o) || s != "" || e != api.ErrArg {
		t.Errorf("%+v: May %v, Encode %x, %v", o, opt.May(o), s, e)
	}
}

// P7.1, P7.2: options written by hand, among them the chapter's examples: they may be, are told, and are read.
func TestWritten(t *testing.T) {
	for _, x := range examples() {
		if s, e := opt.Encode(x.o); s != x.s || e != api.OK || !opt.May(x.o) {
			t.Errorf("%+v: May %v, Encode %x, %v, not %x", x.o, opt.May(x.o), s, e, x.s)
		}
		read(t, x.s, x.o)
	}
}

// P7.1: None is the options of which none is there: they may be, and have no bytes; options of zero values are others.
func TestNone(t *testing.T) {
	o := opt.None()
	if !same(o, api.Opts{MSS: 0, Scale: -1, Sack: false, Blocks: nil, Time: false, Val: 0, Echo: 0}) {
		t.Errorf("None is %+v", o)
	}
	if s, e := opt.Encode(o); s != "" || e != api.OK || !opt.May(o) {
		t.Errorf("None: May %v, Encode %x, %v", opt.May(o), s, e)
	}
	if opt.Same(o, api.Opts{}) {
		t.Error("a Scale 0 is one that is not there")
	}
}

// P7.1: MSS may be each number; 0 is one that is not there.
func TestEachMSS(t *testing.T) {
	for n := range math.MaxUint16 + 1 {
		o := api.Opts{MSS: uint16(n), Scale: -1}
		write(t, o)
		if s, e := opt.Encode(o); e != api.OK || (n == 0) != (s == "") {
			t.Fatalf("MSS %d: %x, %v", n, s, e)
		}
	}
}

// P7.1: Scale is from -1 to MaxScale: those beside them are refused, and those that are one of them modulo 256.
func TestEachScale(t *testing.T) {
	for n := -600; n <= 600; n++ {
		o := api.Opts{Scale: n}
		write(t, o)
		if may := n >= -1 && n <= api.MaxScale; opt.May(o) != may {
			t.Errorf("Scale %d: May %v", n, !may)
		}
	}
	for _, n := range []int{math.MinInt, math.MinInt32, -1 << 32, 1 << 32, 1<<32 - 1, math.MaxInt} {
		refuseWrite(t, api.Opts{Scale: n})
	}
}

// P7.1: there are at most MaxBlocks blocks, whatever their numbers are; one more is refused, and as many as make a length go round.
func TestBlocks(t *testing.T) {
	for n := range 70 {
		o := api.Opts{Scale: -1, Blocks: make([]api.Block, n)}
		for i := range o.Blocks {
			o.Blocks[i] = api.Block{From: uint32(i) * 0x01020304, To: ^uint32(i)}
		}
		write(t, o)
		if may := n <= api.MaxBlocks; opt.May(o) != may {
			t.Errorf("%d blocks: May %v", n, !may)
		}
	}
	refuseWrite(t, api.Opts{Scale: -1, Blocks: make([]api.Block, 1<<16)})
	for _, b := range []api.Block{{}, {From: 1}, {To: 1}, {From: 2, To: 1}, {From: top, To: 0}, {From: top, To: top}} {
		write(t, api.Opts{Scale: -1, Blocks: []api.Block{b}})
		write(t, api.Opts{Scale: -1, Blocks: []api.Block{b, b, b, b}})
	}
}

// P7.1: Val and Echo are 0 unless Time, each by itself.
func TestTime(t *testing.T) {
	for _, val := range []uint32{0, 1, 0xff, 0x100, 0x80000000, top} {
		for _, echo := range []uint32{0, 1, 0xff, 0x100, 0x80000000, top} {
			write(t, api.Opts{Scale: -1, Time: true, Val: val, Echo: echo})
			o := api.Opts{Scale: -1, Val: val, Echo: echo}
			write(t, o)
			if may := val == 0 && echo == 0; opt.May(o) != may {
				t.Errorf("Val %d, Echo %d without Time: May %v", val, echo, !may)
			}
		}
	}
}

// P7.1: options have at most MaxOpts bytes: four blocks beside an MSS do, and are one too many beside two options.
func TestEncodeLong(t *testing.T) {
	four := make([]api.Block, 4)
	for _, o := range []api.Opts{
		{MSS: 1, Scale: -1, Blocks: four},
		{Scale: 0, Blocks: four},
		{Scale: -1, Sack: true, Blocks: four},
		{Scale: -1, Time: true, Blocks: four[:3]},
	} {
		if s, e := opt.Encode(o); len(s) != api.MaxOpts || e != api.OK || !opt.May(o) {
			t.Errorf("%+v: May %v, Encode %x, %v", o, opt.May(o), s, e)
		}
		read(t, meantBytes(o), o)
	}
	for _, o := range []api.Opts{
		{MSS: 1, Scale: 0, Blocks: four},
		{MSS: 1, Scale: -1, Sack: true, Blocks: four},
		{Scale: 0, Sack: true, Blocks: four},
		{MSS: 1, Scale: -1, Time: true, Blocks: four[:3]},
		{Scale: 0, Time: true, Blocks: four[:3]},
		{Scale: -1, Sack: true, Time: true, Blocks: four[:3]},
		{Scale: -1, Time: true, Blocks: four},
		{MSS: 1, Scale: 0, Sack: true, Time: true, Blocks: four[:2]},
	} {
		refuseWrite(t, o)
	}
}

// P7.1, P7.4: options of all sorts: those that may be are told as the chapter tells them, and read.
func TestWrittenIsRead(t *testing.T) {
	may := 0
	for _, o := range some() {
		write(t, o)
		if meantMay(o) {
			may++
			read(t, meantBytes(o), o)
		}
	}
	if may == 0 || may == len(some()) {
		t.Errorf("%d of them may be", may)
	}
}

// P7.1: Same tells of each field whether it is another one; no blocks are the same as a list without elements.
func TestSame(t *testing.T) {
	l := []api.Opts{
		none,
		{},
		{Scale: 14},
		{Scale: -2},
		{MSS: 1, Scale: -1},
		{MSS: 0x100, Scale: -1},
		{Scale: -1, Sack: true},
		{Scale: -1, Time: true},
		{Scale: -1, Time: true, Val: 1},
		{Scale: -1, Time: true, Echo: 1},
		{Scale: -1, Val: 1},
		{Scale: -1, Echo: 1},
		{Scale: -1, Blocks: []api.Block{{}}},
		{Scale: -1, Blocks: []api.Block{{}, {}}},
		{Scale: -1, Blocks: []api.Block{{From: 1}}},
		{Scale: -1, Blocks: []api.Block{{To: 1}}},
		{Scale: -1, Blocks: []api.Block{{From: 1, To: 2}, {From: 3, To: 4}}},
		{Scale: -1, Blocks: []api.Block{{From: 3, To: 4}, {From: 1, To: 2}}},
		{Scale: -1, Blocks: make([]api.Block, 5)},
		{MSS: 1, Scale: 1, Sack: true, Time: true, Val: 1, Echo: 1, Blocks: []api.Block{{From: 1, To: 1}}},
	}
	for i, a := range l {
		for k, b := range l {
			b.Blocks = append([]api.Block{}, b.Blocks...)
			if got := opt.Same(a, b); got != (i == k) {
				t.Errorf("Same(%+v, %+v) = %v", a, b, got)
			}
		}
	}
}

// P7.2: more than MaxOpts bytes are refused as that, whatever they are; MaxOpts of them are not.
func TestDecodeLong(t *testing.T) {
	for _, x := range []string{"\x00", "\x01", "\x02", "\x1e\x02"} {
		for _, n := range []int{api.MaxOpts + 1, api.MaxOpts + 4, 255, 256, 1 << 16, 1 << 20} {
			refuse(t, strings.Repeat(x, n)[:n], api.ErrLong)
		}
	}
	for _, x := range []string{"\x00", "\x01", "\x1e\x02"} {
		read(t, strings.Repeat(x, api.MaxOpts)[:api.MaxOpts], none)
	}
	refuse(t, strings.Repeat("\x02", api.MaxOpts), api.ErrOption)
}

// P7.2: what the chapter's examples refuse, and the like.
func TestDecodeRefused(t *testing.T) {
	for _, s := range []string{
		"\x02\x04\x05", "\x02\x03\x05", "\x04\x02\x04\x02",
		"\x02", "\x03", "\x04", "\x05", "\x08", "\xff", // no length
		"\x02\x00", "\x03\x01", "\x1e\x00", "\x1e\x01", // less than what tells it
		"\x02\x04\x00\x00", "\x02\x04\x00\x00\x00",
		"\x03\x04\x01\x01", "\x04\x03\x01", "\x08\x0a", "\x05\x02", "\x1e\x03",
		"\x01\x01\x04\x02\x01\x04", "\x1e\x02\x1e\x03", "\x1e\x04\x00",
		"\x02\x04\x00\x01\x02\x04\x00\x01", "\x03\x03\x00\x03\x03\x00",
	} {
		refuse(t, s, api.ErrOption)
	}
}

// P7.2: each kind with each length, with all of its bytes there, with one less and one more, and for the second time.
func TestDecodeEachLength(t *testing.T) {
	for kind := 2; kind < 256; kind++ {
		for n := range 256 {
			s := string([]byte{byte(kind), byte(n)}) + strings.Repeat("\x01", api.MaxOpts)
			whole := s[:min(max(n, 2), api.MaxOpts)]
			check(t, whole)
			if n > api.MaxOpts || !mayBeLong(byte(kind), n) {
				refuse(t, whole, api.ErrOption)
				check(t, s[:api.MaxOpts])
				continue
			}
			refuse(t, whole[:n-1], api.ErrOption)
			check(t, s[:min(n+1, api.MaxOpts)])
			if 2*n <= api.MaxOpts {
				check(t, whole+whole)
				if _, known := lengths[byte(kind)]; known {
					refuse(t, whole+whole, api.ErrOption)
				} else {
					read(t, whole+whole, none)
				}
			}
		}
	}
}

// P7.2: an option is cut off at each place, and something else stands there instead.
func TestDecodeCut(t *testing.T) {
	for _, x := range examples() {
		for n := range len(x.s) {
			check(t, x.s[:n])
			for _, b := range []string{"\x00", "\x01", "\x02", "\x04\x02", "\xff\x02"} {
				if n+len(b) <= len(x.s) {
					check(t, x.s[:n]+b)
					check(t, with(x.s, n, b))
				}
			}
		}
	}
}

// P7.2: a known kind for the second time is refused, wherever it stands, and also if it tells the same.
func TestDecodeTwice(t *testing.T) {
	l := []string{
		"\x02\x04\x00\x01", "\x02\x04\xff\xff", "\x03\x03\x00", "\x03\x03\x0e", "\x04\x02", "\x08\x0a\x00\x00\x00\x00\x00\x00\x00\x00", "\x08\x0a\x01\x02\x03\x04\x05\x06\x07\x08",
		"\x05\x0a\x00\x00\x00\x00\x00\x00\x00\x00", "\x05\x12\x01\x02\x03\x04\x05\x06\x07\x08\x01\x02\x03\x04\x05\x06\x07\x08",
	}
	for _, a := range l {
		for _, b := range l {
			for _, between := range []string{"", "\x01", "\x1e\x03\x00", "\x06\x02\x07\x02"} {
				s := a + between + b
				if a[0] == b[0] {
					refuse(t, s, api.ErrOption)
				} else if _, e := opt.Decode(s); e != api.OK {
					t.Errorf("Decode(%x): %v", s, e)
				}
				check(t, s)
				// Behind the end nothing is told for the second time.
				check(t, a+between+"\x00"+b)
			}
		}
	}
}

// P7.2: an unknown kind says nothing, of whatever length from 2 on, and however often it stands there.
func TestDecodeUnknown(t *testing.T) {
	for kind := range 256 {
		if _, known := lengths[byte(kind)]; known || kind < 2 {
			continue
		}
		k := string([]byte{byte(kind)})
		read(t, k+"\x02"+k+"\x02", none)
		read(t, k+"\x05\x00\x04\x02\x04\x02", api.Opts{Scale: -1, Sack: true})
		read(t, "\x04\x02"+k+"\x26"+strings.Repeat("\x05", 36), api.Opts{Scale: -1, Sack: true})
		refuse(t, "\x04\x02"+k+"\x27"+strings.Repeat("\x05", 36), api.ErrOption)
		refuse(t, k+"\x03", api.ErrOption)
	}
}

// P7.2: at the end all is done: what stands behind it is not looked at.
func TestDecodeEnd(t *testing.T) {
	for _, x := range examples() {
		for _, behind := range []string{"", "\x00", "\x02", "\x04\x02", "\x02\x04\x00\x00", "\xff\xff", "\x08\x0a", "\x1e\x00"} {
			if len(x.s)+1+len(behind) <= api.MaxOpts {
				read(t, x.s+"\x00"+behind, x.o)
			}
		}
		if len(x.s) < api.MaxOpts {
			read(t, "\x00"+x.s, none)
		}
	}
	// A byte 0 within an option is no end.
	read(t, "\x1e\x04\x00\x00\x04\x02", api.Opts{Scale: -1, Sack: true})
}

// P7.2: bytes that say nothing may stand ahead of each option, and behind it, or not.
func TestDecodeNothing(t *testing.T) {
	l := []string{"\x02\x04\x05\xb4", "\x03\x03\x07", "\x04\x02", "\x08\x0a\x01\x01\x01\x01\x00\x00\x00\x00"}
	want := api.Opts{MSS: 1460, Scale: 7, Sack: true, Time: true, Val: 0x01010101}
	for n := range 1 << (2 * (len(l) + 1)) {
		s := ""
		for i := range len(l) + 1 {
			s += strings.Repeat("\x01", n>>(2*i)&3)
			if i < len(l) {
				s += l[i]
			}
		}
		read(t, s, want)
	}
	for n := range api.MaxOpts + 1 {
		read(t, strings.Repeat("\x01", n), none)
	}
}

// P7.2: options stand in any order.
func TestDecodeOrder(t *testing.T) {
	l := []string{"\x02\x04\x05\xb4", "\x03\x03\x07", "\x04\x02", "\x08\x0a\x00\x00\x00\x01\x00\x00\x00\x02", "\x05\x12\x00\x00\x00\x03\x00\x00\x00\x04\x00\x00\x00\x05\x00\x00\x00\x06"}
	want := api.Opts{MSS: 1460, Scale: 7, Sack: true, Time: true, Val: 1, Echo: 2, Blocks: []api.Block{{From: 3, To: 4}, {From: 5, To: 6}}}
	n := 0
	for a := range l {
		for b := range l {
			for c := range l {
				for d := range l {
					for e := range l {
						if 1<<a|1<<b|1<<c|1<<d|1<<e != 31 {
							continue
						}
						n++
						// More bytes than these would have as they are written: they are read all the same.
						read(t, l[a]+l[b]+l[c]+l[d]+l[e], want)
					}
				}
			}
		}
	}
	if n != 120 || opt.May(want) {
		t.Errorf("%d orders; May %v", n, opt.May(want))
	}
}

// P7.2: a Scale above MaxScale is read as MaxScale, and stands as it was when it is turned.
func TestDecodeScale(t *testing.T) {
	for n := range 256 {
		s := "\x03\x03" + string([]byte{byte(n)})
		read(t, s, api.Opts{Scale: min(n, 14)})
		if x, e := opt.Turn(s, 1, 2, 3); x != s || e != api.OK {
			t.Errorf("Turn(%x) = %x, %v", s, x, e)
		}
	}
}

// P7.2, P7.3: each byte of some options at each of its values, as the chapter tells it.
func TestDecodeEachByte(t *testing.T) {
	for _, x := range examples() {
		for at := range len(x.s) {
			for n := range 256 {
				check(t, with(x.s, at, string([]byte{byte(n)})))
			}
		}
	}
}

// P7.2, P7.3: bytes of any kind, of any length, and such as make options, are read or refused as the chapter tells it.
func TestDecodeAnything(t *testing.T) {
	n, read := uint32(1), 0
	next := func(below int) int {
		n = n*1664525 + 1013904223
		return int(n>>8) % below
	}
	pieces := []string{
		"\x00", "\x01", "\x01", "\x02\x04\x05\xb4", "\x03\x03\x07", "\x03\x03\xff", "\x04\x02", "\x1e\x02", "\x06\x05\x05\x0a\x00", "\xff\x08\x0a\x00\x00\x00\x00\x00",
		"\x08\x0a\x01\x02\x03\x04\xff\xff\xff\xff", "\x05\x0a\x00\x00\x00\x00\xff\xff\xff\xff", "\x05\x12\x01\x02\x03\x04\x05\x06\x07\x08\x09\x0a\x0b\x0c\x0d\x0e\x0f\x10", "\x02\x04", "\x05\x1a",
	}
	for range 20000 {
		s := ""
		for range next(12) {
			if p := next(len(pieces) + 1); p < len(pieces) {
				s += pieces[p]
			} else {
				s += string([]byte{byte(next(256))})
			}
		}
		s = s[:min(len(s), api.MaxOpts+next(2))]
		check(t, s)
		if _, e := opt.Decode(s); e == api.OK {
			read++
		}
	}
	if read < 1000 || read > 19000 {
		t.Errorf("%d are read", read)
	}
}

// P7.3: options turned by hand: each number by what is its own, wherever it stands; they go around at 2^32.
func TestTurn(t *testing.T) {
	for _, x := range []struct {
		s                 string
		blocks, val, echo uint32
		want              string
	}{
		{"", 1, 2, 3, ""},
		{"\x02\x04\x05\xb4\x01\x03\x03\x63\x01\x01\x04\x02\x00\x09", 1, 2, 3, "\x02\x04\x05\xb4\x01\x03\x03\x63\x01\x01\x04\x02\x00\x09"},
		{"\x05\x0a\x00\x00\x00\x01\xff\xff\xff\xff\x08\x0a\x00\x00\x00\x05\x00\x00\x00\x06", 2, 3, 4, "\x05\x0a\x00\x00\x00\x03\x00\x00\x00\x01\x08\x0a\x00\x00\x00\x08\x00\x00\x00\x0a"},
		{"\x08\x0a\xff\xff\xff\xff\x80\x00\x00\x00", 7, 1, 0x80000000, "\x08\x0a\x00\x00\x00\x00\x00\x00\x00\x00"},
		{"\x01\x08\x0a\x00\x00\x00\x00\x00\x00\x00\x00\x00\x08\x0a", 7, top, 0x01020304, "\x01\x08\x0a\xff\xff\xff\xff\x01\x02\x03\x04\x00\x08\x0a"},
		{"\x05\x12\x00\x00\x00\x00\x00\x00\x00\x01\x00\x00\x00\x02\xff\xff\xff\xff", top, 7, 8, "\x05\x12\xff\xff\xff\xff\x00\x00\x00\x00\x00\x00\x00\x01\xff\xff\xff\xfe"},
		// What looks like blocks and times within another option, or behind the end, is none.
		{"\x1e\x0c\x05\x0a\x00\x00\x00\x01\x00\x00\x00\x02", 1, 1, 1, "\x1e\x0c\x05\x0a\x00\x00\x00\x01\x00\x00\x00\x02"},
		{"\x00\x08\x0a\x00\x00\x00\x01\x00\x00\x00\x02", 1, 1, 1, "\x00\x08\x0a\x00\x00\x00\x01\x00\x00\x00\x02"},
	} {
		if s, e := opt.Turn(x.s, x.blocks, x.val, x.echo); s != x.want || e != api.OK {
			t.Errorf("Turn(%x, %x, %x, %x) = %x, %v, not %x", x.s, x.blocks, x.val, x.echo, s, e, x.want)
		}
	}
}

// P7.3: what can't be read can't be turned, also by 0: the error is Decode's.
func TestTurnRefused(t *testing.T) {
	for s, want := range map[string]api.Errno{
		strings.Repeat("\x00", 41):                     api.ErrLong,
		strings.Repeat("\x02", 41):                     api.ErrLong,
		"\x02\x04\x05":                                 api.ErrOption,
		"\x04\x02\x04\x02":                             api.ErrOption,
		"\x08\x0a\x00\x00\x00\x01\x00\x00\x00\x02\x03": api.ErrOption,
	} {
		for _, by := range turns() {
			if x, e := opt.Turn(s, by[0], by[1], by[2]); x != "" || e != want {
				t.Errorf("Turn(%x, %x) = %x, %v", s, by, x, e)
			}
		}
	}
}

// P7.4: what is turned is read as what was there, turned; turned back, it is what it was.
func TestTurnedIsRead(t *testing.T) {
	for _, o := range some() {
		s, e := opt.Encode(o)
		if e != api.OK {
			continue
		}
		for _, by := range turns() {
			now, e := opt.Turn(s, by[0], by[1], by[2])
			want := o
			want.Blocks = nil
			for _, b := range o.Blocks {
				want.Blocks = append(want.Blocks, api.Block{From: b.From + by[0], To: b.To + by[0]})
			}
			if o.Time {
				want.Val, want.Echo = o.Val+by[1], o.Echo+by[2]
			}
			if got, err := opt.Decode(now); e != api.OK || err != api.OK || !opt.Same(got, want) {
				t.Fatalf("Turn(%x, %x) = %x, %v, which is %+v, %v", s, by, now, e, got, err)
			}
			if back, e := opt.Turn(now, -by[0], -by[1], -by[2]); back != s || e != api.OK {
				t.Fatalf("%x turned by %x, and back, is %x, %v", s, by, back, e)
			}
		}
	}
}

// R5: an answer's blocks are its own, and what is handed in stays as it is.
func TestOwnMemory(t *testing.T) {
	o := api.Opts{Scale: -1, Blocks: []api.Block{{From: 1, To: 2}, {From: 3, To: 4}}}
	s, _ := opt.Encode(o)
	o.Blocks[0].From = 9
	a, _ := opt.Decode(s)
	a.Blocks[0].From = 7
	b, _ := opt.Decode(s)
	if b.Blocks[0] != (api.Block{From: 1, To: 2}) || o.Blocks[0].From != 9 || o.Blocks[1] != (api.Block{From: 3, To: 4}) {
		t.Errorf("%v of %x, %v", b.Blocks, s, o.Blocks)
	}
}
