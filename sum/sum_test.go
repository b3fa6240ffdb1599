package sum

import (
	"slices"
	"strings"
	"testing"
)

const (
	few  = "\x00\x01\x7f\x80\xfe\xff" // bytes of which short texts are made
	most = 4                          // how many bytes a short text has at most
)

// edges is words at which something goes over, and some others.
func edges() []uint16 {
	return []uint16{0, 1, 2, 0xff, 0x100, 0x1234, 0x7fff, 0x8000, 0x8001, 0xfeff, 0xff00, 0xfffd, 0xfffe, 0xffff}
}

// texts is all texts of from 0 to most bytes of few.
func texts() []string {
	all := []string{""}
	last := all
	for range most {
		var longer []string
		for _, s := range last {
			for i := range len(few) {
				longer = append(longer, s+few[i:i+1])
			}
		}
		all = append(all, longer...)
		last = longer
	}
	return all
}

// twoBytes is the text of one word.
func twoBytes(w uint16) string {
	return string([]byte{byte(w >> 8), byte(w)})
}

// list is the words of a text, as the chapter tells them.
func list(s string) []uint16 {
	if len(s)%2 == 1 {
		s += "\x00"
	}
	var l []uint16
	for i := 0; i < len(s); i += 2 {
		l = append(l, uint16(s[i])*256+uint16(s[i+1]))
	}
	return l
}

// complement is 65,535 less the sum by ones' complement of l, as the chapter tells it.
func complement(l ...uint16) uint16 {
	s := uint64(0)
	for _, w := range l {
		s += uint64(w)
	}
	for s > 65535 {
		s = s%65536 + s/65536
	}
	return uint16(65535 - s)
}

// turned is what Turns answers, as the chapter tells it.
func turned(sum uint16, was, now string) uint16 {
	n := min(len(was), len(now))
	a, b := list(was[:n]), list(now[:n])
	for i := range a {
		sum = complement(65535-sum, 65535-a[i], b[i])
	}
	return sum
}

// P3.1: of no part, of empty ones, of one byte, of words 0 and 65,535, and the chapter's examples.
func TestOf(t *testing.T) {
	for _, x := range []struct {
		parts []string
		want  uint16
	}{
		{nil, 0xffff},
		{[]string{}, 0xffff},
		{[]string{""}, 0xffff},
		{[]string{"", "", ""}, 0xffff},
		{[]string{"\x01"}, 0xfeff},
		{[]string{"\x00\x01"}, 0xfffe},
		{[]string{"\x00"}, 0xffff},
		{[]string{"\x00\x00"}, 0xffff},
		{[]string{"\xff"}, 0x00ff},
		{[]string{"\xff\xff"}, 0},
		{[]string{"\xff\xff\xff\xff"}, 0},
		{[]string{"\xff\xff\x00\x01"}, 0xfffe},
		{[]string{"\x00\x00\xff\xff\x00"}, 0},
		{[]string{"\x80\x00\x80\x00"}, 0xfffe},
		{[]string{"\xff\xff\xff"}, 0x00ff},
		{[]string{"\x01\x02\x03"}, 0xfbfd},
		{[]string{"\x01", "\x02\x03"}, 0xfbfd},
		{[]string{"\x01\x02", "", "\x03", ""}, 0xfbfd},
		{[]string{"\x01", "", "\x02", "\x03"}, 0xfbfd},
		{[]string{"\x01", "\x01"}, 0xfefe},
		{[]string{"\x00\x01\xf2\x03\xf4\xf5\xf6\xf7"}, 0x220d},
		{[]string{"\x00\x01\xf2", "\x03\xf4", "\xf5\xf6\xf7"}, 0x220d},
	} {
		if got := Of(x.parts...); got != x.want {
			t.Errorf("Of(%q) is %04x, not %04x", x.parts, got, x.want)
		}
	}
}

// P3.1: a part is not a text of its own: wherever a text is cut, in two or in three, its checksum is one.
func TestOfParts(t *testing.T) {
	for _, s := range texts() {
		want := complement(list(s)...)
		for i := range len(s) + 1 {
			for j := i; j <= len(s); j++ {
				if got := Of(s[:i], s[i:j], s[j:]); got != want {
					t.Fatalf("Of(%q, %q, %q) is %04x, not %04x", s[:i], s[i:j], s[j:], got, want)
				}
			}
		}
	}
}

// P3.1: many words, also more than a number of 32 bits can add up, in one part and in many.
func TestOfLong(t *testing.T) {
	mixed := strings.Repeat("\x00\x01\xf2\x03\xf4\xf5\xf6", 30001)
	for _, s := range []string{
		strings.Repeat("\xff", 1<<18),
		strings.Repeat("\xff", 1<<18+1),
		strings.Repeat("\xff\xfe", 1<<17),
		strings.Repeat("\x80\x00", 1<<18),
		strings.Repeat("\x00", 1<<18),
		mixed,
	} {
		want := complement(list(s)...)
		if got := Of(s); got != want {
			t.Errorf("%d bytes of %q..: %04x, not %04x", len(s), s[:4], got, want)
		}
		if got := Of(strings.Split(s, "")...); got != want {
			t.Errorf("%d bytes of %q.., each a part: %04x, not %04x", len(s), s[:4], got, want)
		}
	}
	if got := Of(mixed[:65537], "", mixed[65537:]); got != Of(mixed) {
		t.Errorf("cut at 65537: %04x", got)
	}
}

// P3.1: a text that bears its checksum is right, wherever that stands; another one is not.
func TestRight(t *testing.T) {
	for _, x := range []struct {
		parts []string
		want  bool
	}{
		{nil, false},
		{[]string{""}, false},
		{[]string{"\x00"}, false},
		{[]string{"\x00\x00", "\x00\x00"}, false},
		{[]string{"\xff"}, false},
		{[]string{"\xff\xff"}, true},
		{[]string{"\xff", "\xff"}, true},
		{[]string{"\xff\xff", "\x00"}, true},
		{[]string{"\xff\xff\xff\xff"}, true},
		{[]string{"\xff\xfe"}, false},
		{[]string{"\xff\xff\x00\x01"}, false},
		{[]string{"\x00\x01\xf2\x03\xf4\xf5\xf6\xf7"}, false},
		{[]string{"\x00\x01\xf2\x03\xf4\xf5\xf6\xf7", "\x22\x0d"}, true},
		{[]string{"\x00\x01\xf2\x03", "\x22\x0d", "\xf4\xf5\xf6\xf7"}, true},
		{[]string{"\x00\x01\xf2\x03\xf4\xf5\xf6\xf7", "\x22\x0e"}, false},
		{[]string{"\x00\x01\xf2\x03\xf4\xf5\xf6\xf7", "\x0d\x22"}, false},
		{[]string{"\x00\x01\xf2\x03\xf4\xf5\xf6\xf7", "\x22"}, false},
		{[]string{"\x01", "\x00\xfe\xff"}, true},
		{[]string{"\x01", "\xfe\xff"}, false},
	} {
		if got := Right(x.parts...); got != x.want {
			t.Errorf("Right(%q) is %v", x.parts, got)
		}
	}
}

// P3.1: right is just what has the checksum 0.
func TestRightIsZero(t *testing.T) {
	for _, s := range texts() {
		if got := Right(s[:len(s)/2], s[len(s)/2:]); got != (complement(list(s)...) == 0) {
			t.Fatalf("Right(%q) is %v", s, got)
		}
		if len(s)%2 == 0 && !Right(s, twoBytes(Of(s))) {
			t.Fatalf("%q is not right with its checksum behind it", s)
		}
	}
}

// R5: the list of parts is left as it was.
func TestPartsAreLeft(t *testing.T) {
	parts := []string{"\x01", "", "\x02\x03", "\x04"}
	was := slices.Clone(parts)
	Of(parts...)
	Right(parts...)
	if !slices.Equal(parts, was) {
		t.Errorf("%q, not %q", parts, was)
	}
}

// P3.2: two checksums of texts, the first one of an even number of bytes, are joined to that of both.
func TestJoinTexts(t *testing.T) {
	s := "\x00\x01\xf2\x03\xf4\xf5\xf6\xf7"
	for i := 0; i <= len(s); i += 2 {
		if got := Join(Of(s[:i]), Of(s[i:])); got != 0x220d {
			t.Errorf("%04x at %d", got, i)
		}
	}
	for _, a := range texts() {
		if len(a)%2 == 1 {
			continue
		}
		for _, b := range []string{"", "\x00", "\x01", "\xff", "\x00\x00", "\xff\xff", "\x12\x34\x56", "\x80\x00\x80\x00"} {
			if got := Join(Of(a), Of(b)); got != Of(a+b) {
				t.Fatalf("%q and %q: %04x, not %04x", a, b, got, Of(a+b))
			}
		}
	}
}

// P3.2: joined is 65,535 less the sum of what both are short of 65,535, of any numbers.
func TestJoin(t *testing.T) {
	for _, x := range [][3]uint16{
		{0xffff, 0xffff, 0xffff},
		{0xffff, 0, 0},
		{0, 0xffff, 0},
		{0, 0, 0},
		{0xfffe, 0xffff, 0xfffe},
		{1, 0xfffe, 0},
		{1, 0xffff, 1},
		{0x8000, 0x7fff, 0},
		{0x7fff, 0x7fff, 0xfffe},
		{1, 1, 2},
	} {
		if got := Join(x[0], x[1]); got != x[2] {
			t.Errorf("Join(%04x, %04x) is %04x, not %04x", x[0], x[1], got, x[2])
		}
	}
	for _, a := range edges() {
		for n := range 65536 {
			b := uint16(n)
			want := complement(65535-a, 65535-b)
			if got := Join(a, b); got != want {
				t.Fatalf("Join(%04x, %04x) is %04x, not %04x", a, b, got, want)
			}
			if got := Join(b, a); got != want {
				t.Fatalf("Join(%04x, %04x) is %04x, not %04x", b, a, got, want)
			}
		}
	}
}

// P3.3: the chapter's example, and the words 0 and 65,535, of which both count as nothing but for a sum of nothing else.
func TestTurn(t *testing.T) {
	for _, x := range []struct{ sum, was, now, want uint16 }{
		{0xdd2f, 0x5555, 0x3285, 0x0000},
		{0x220d, 0x0001, 0x0002, 0x220c},
		{0x220d, 0x0001, 0x0001, 0x220d},
		{0x1234, 0x0000, 0xffff, 0x1234},
		{0x1234, 0xffff, 0x0000, 0x1234},
		{0x1234, 0xffff, 0xffff, 0x1234},
		{0x1234, 0x0000, 0x0000, 0x1234},
		{0xffff, 0xffff, 0x0000, 0xffff},
		{0xffff, 0x0000, 0x0000, 0x0000},
		{0xffff, 0xffff, 0xffff, 0x0000},
		{0xffff, 0xffff, 0x0001, 0xfffe},
		{0x0000, 0xffff, 0x0000, 0x0000},
		{0x0000, 0x0000, 0x0000, 0x0000},
		{0x0000, 0x0000, 0xffff, 0x0000},
		{0x0000, 0x0000, 0x0001, 0xfffe},
		{0x0000, 0x0001, 0x0000, 0x0001},
	} {
		if got := Turn(x.sum, x.was, x.now); got != x.want {
			t.Errorf("Turn(%04x, %04x, %04x) is %04x, not %04x", x.sum, x.was, x.now, got, x.want)
		}
	}
}

// P3.3: 65,535 less the sum of what sum and was are short of 65,535, and of now, of any numbers.
func TestTurnOfAny(t *testing.T) {
	for _, a := range edges() {
		for _, b := range edges() {
			for n := range 65536 {
				c := uint16(n)
				for _, x := range [][3]uint16{{a, b, c}, {a, c, b}, {c, a, b}} {
					want := complement(65535-x[0], 65535-x[1], x[2])
					if got := Turn(x[0], x[1], x[2]); got != want {
						t.Fatalf("Turn(%04x, %04x, %04x) is %04x, not %04x", x[0], x[1], x[2], got, want)
					}
				}
			}
		}
	}
}

// P3.3: texts of no bytes, of an odd number, of two lengths, and of many words.
func TestTurns(t *testing.T) {
	long := strings.Repeat("\xff\xfe\x01", 50001)
	other := strings.Repeat("\x80\x00\xf2\x03\xff", 30001)
	for _, x := range []struct {
		sum      uint16
		was, now string
		want     uint16
	}{
		{0x220d, "", "", 0x220d},
		{0xffff, "", "", 0xffff},
		{0, "", "", 0},
		{0x220d, "", "\x00\x01", 0x220d},
		{0x220d, "\x00\x01", "", 0x220d},
		{0x220d, "\x00\x01", "\x00\x02", 0x220c},
		{0x220d, "\x00\x01", "\x00\x02more", 0x220c},
		{0x220d, "\x00\x01more", "\x00\x02", 0x220c},
		{0x220d, "\x00", "\x01", 0x210d},
		{0x220d, "\x00\x01", "\x01", 0x210d},
		{0x220d, "\x00", "\x01\xff", 0x210d},
		{0x220d, "\x00\x01\xf2", "\x01\x01\xf3more", Of("\x01\x01\xf3\x03\xf4\xf5\xf6\xf7")},
		{0xdd2f, "\x55\x55", "\x32\x85", 0},
		{0xffff, "\xff\xff", "\x00\x00", 0xffff},
		{0xffff, "\xff\xff\xff\xff", "\x00\x00\x00\x00", 0xffff},
		{0xffff, "\x00\x00", "\x00\x00", 0},
		{0x220d, long, other, turned(0x220d, long, other)},
		{Of(long, other), long, other[:len(long)], Of(other[:len(long)], other)},
	} {
		if got := Turns(x.sum, x.was, x.now); got != x.want {
			t.Errorf("Turns(%04x, %.12q, %.12q) is %04x, not %04x", x.sum, x.was, x.now, got, x.want)
		}
	}
}

// P3.3: word by word, both texts cut to the length of the shorter one, of all short texts.
func TestTurnsShort(t *testing.T) {
	all := texts()
	for _, was := range all {
		for _, now := range all {
			if len(was)+len(now) > 6 {
				continue
			}
			for _, sum := range []uint16{0, 1, 0x220d, 0xfffe, 0xffff} {
				want := turned(sum, was, now)
				if got := Turns(sum, was, now); got != want {
					t.Fatalf("Turns(%04x, %q, %q) is %04x, not %04x", sum, was, now, got, want)
				}
			}
		}
	}
}

// P3.4: one word that is another one makes another checksum, but for 0 and 65,535.
func TestOneWordIsSeen(t *testing.T) {
	for _, rest := range []string{"", "\x00\x00", "\xff\xff", "\x12\x34", "\x80", "\xff\xfe\x00\x03"} {
		seen := map[uint16]int{}
		for w := range 65536 {
			sum := Of("\x00\x00", twoBytes(uint16(w)), rest)
			other, found := seen[sum]
			if found && !(other == 0 && w == 65535) {
				t.Fatalf("the words %04x and %04x ahead of %q both make %04x", other, w, rest, sum)
			}
			seen[sum] = w
		}
	}
}

// P3.4: a checksum that is turned along is the text's own, if another word is neither 0 nor 65,535.
func TestTurnedIsItsOwn(t *testing.T) {
	for _, rest := range []string{"\x00\x01", "\x12\x34", "\xff\xfe", "\x80", "\xff", "\x00\x00\x00\x01\xff\xff", "\xff\xfe\x00\x01"} {
		for _, was := range edges() {
			sum := Of(twoBytes(was), rest)
			for n := range 65536 {
				now := uint16(n)
				if got := Turn(sum, was, now); got != Of(twoBytes(now), rest) {
					t.Fatalf("%04x ahead of %q becomes %04x: %04x, not %04x", was, rest, now, got, Of(twoBytes(now), rest))
				}
			}
		}
	}
}

// P3.4: so it is if all words but one are turned, also a last byte alone.
func TestTurnsIsItsOwn(t *testing.T) {
	for _, rest := range []string{"\x00\x01", "\xff\xfe"} {
		for _, was := range texts() {
			for _, now := range []string{"\x00\x00\x00\x00", "\xff\xff\xff\xff", "\x12\x34\x56\x78", "\x00\x00\xff\x07"} {
				now = now[:len(was)]
				if got := Turns(Of(rest, was), was, now); got != Of(rest, now) {
					t.Fatalf("%q behind %q becomes %q: %04x, not %04x", was, rest, now, got, Of(rest, now))
				}
			}
		}
	}
}
