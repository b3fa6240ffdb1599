package tuple

import (
	"math"
	"regexp"
	"strconv"
	"strings"
	"testing"

	"transom/api"
)

// edges is numbers at which a byte of an address, or its order, goes over.
func edges() []uint32 {
	return []uint32{0, 1, 2, 9, 10, 0xff, 0x100, 0xffff, 0x10000, 0x0a000001, 0x0a0000ff, 0x7fffffff, 0x80000000, 0xc0a80001, 0xff000000, math.MaxUint32 - 1, math.MaxUint32}
}

// addrs is all addresses of edges, and of ports that are edges as well.
func addrs() []api.Addr {
	var l []api.Addr
	for _, ip := range edges() {
		for _, port := range []uint16{0, 1, 80, 0xff, 0x100, 0x7fff, 0x8000, math.MaxUint16} {
			l = append(l, api.Addr{IP: ip, Port: port})
		}
	}
	return l
}

// pairs is pairs whose four numbers are each of a few: in some only the first one is another, in some only the last one.
func pairs() []api.Pair {
	ips := []uint32{0, 1, 0x100, 0x80000000, math.MaxUint32}
	ports := []uint16{0, 1, 0x100, math.MaxUint16}
	var l []api.Pair
	for _, a := range ips {
		for _, b := range ports {
			for _, c := range ips {
				for _, d := range ports {
					l = append(l, pair(a, b, c, d))
				}
			}
		}
	}
	return l
}

func pair(fromIP uint32, fromPort uint16, toIP uint32, toPort uint16) api.Pair {
	return api.Pair{From: api.Addr{IP: fromIP, Port: fromPort}, To: api.Addr{IP: toIP, Port: toPort}}
}

// numbers is a pair's numbers in the order in which they count.
func numbers(p api.Pair) [4]uint64 {
	return [4]uint64{uint64(p.From.IP), uint64(p.From.Port), uint64(p.To.IP), uint64(p.To.Port)}
}

// stands is how two pairs stand to each other, as the chapter tells it.
func stands(a, b api.Pair) int {
	x, y := numbers(a), numbers(b)
	for i := range x {
		if x[i] < y[i] {
			return -1
		}
		if x[i] > y[i] {
			return 1
		}
	}
	return 0
}

// form is what the chapter calls an address's text, but for how great a port is.
func form() *regexp.Regexp {
	part := `(25[0-5]|2[0-4][0-9]|1[0-9][0-9]|[1-9][0-9]|[0-9])`
	return regexp.MustCompile(`^` + part + `\.` + part + `\.` + part + `\.` + part + `:(0|[1-9][0-9]{0,4})$`)
}

// meant is what Parse answers, as the chapter tells it.
func meant(form *regexp.Regexp, s string) (api.Addr, api.Errno) {
	m := form.FindStringSubmatch(s)
	if m == nil {
		return api.Addr{}, api.ErrForm
	}
	var n [5]int
	for i := range n {
		n[i], _ = strconv.Atoi(m[i+1])
	}
	if n[4] > math.MaxUint16 {
		return api.Addr{}, api.ErrForm
	}
	return api.Addr{IP: uint32(n[0])<<24 + uint32(n[1])<<16 + uint32(n[2])<<8 + uint32(n[3]), Port: uint16(n[4])}, api.OK
}

// refuse checks that a text is none: ErrForm, and no address beside it.
func refuse(t *testing.T, s string) {
	t.Helper()
	if a, e := Parse(s); e != api.ErrForm || a != (api.Addr{}) {
		t.Errorf("Parse(%.60q) of %d bytes = %v, %v", s, len(s), a, e)
	}
}

// P4.1: what was asked is answered, number by number; turned twice, it is as it was.
func TestTurned(t *testing.T) {
	if got := Turned(pair(1, 2, 3, 4)); got != pair(3, 4, 1, 2) {
		t.Errorf("Turned: %v", got)
	}
	for _, p := range pairs() {
		q := Turned(p)
		if q.From != p.To || q.To != p.From {
			t.Errorf("Turned(%v) = %v", p, q)
		}
		if Turned(q) != p {
			t.Errorf("%v turned twice is %v", p, Turned(q))
		}
	}
}

// P4.1: From's IP, From's Port, To's IP, To's Port: an earlier one counts, whatever the later ones are.
func TestCompare(t *testing.T) {
	const ip, port = math.MaxUint32, math.MaxUint16
	for _, x := range []struct {
		a, b api.Pair
		want int
	}{
		{api.Pair{}, api.Pair{}, 0},
		{pair(1, 2, 3, 4), pair(1, 2, 3, 4), 0},
		{pair(ip, port, ip, port), pair(ip, port, ip, port), 0},
		{pair(1, port, ip, port), pair(2, 0, 0, 0), -1},
		{pair(1, 2, ip, port), pair(1, 3, 0, 0), -1},
		{pair(1, 2, 3, port), pair(1, 2, 4, 0), -1},
		{pair(1, 2, 3, 4), pair(1, 2, 3, 5), -1},
		{pair(ip, port, ip, port-1), pair(ip, port, ip, port), -1},
		{pair(0, 0, 0, 0), pair(0, 0, 0, port), -1},
		{pair(0x7fffffff, 0, 0, 0), pair(0x80000000, 0, 0, 0), -1},
		{pair(0, 0x7fff, 0, 0), pair(0, 0x8000, 0, 0), -1},
		{pair(0, 0, 0, 0), pair(ip, 0, 0, 0), -1},
		{pair(0, 0, 0xff, 0), pair(0, 0, 0x100, 0), -1},
		{pair(2, 1, 1, 2), pair(1, 2, 2, 1), 1},
	} {
		if got := Compare(x.a, x.b); got != x.want {
			t.Errorf("Compare(%v, %v) = %d", x.a, x.b, got)
		}
		if got := Compare(x.b, x.a); got != -x.want {
			t.Errorf("Compare(%v, %v) = %d", x.b, x.a, got)
		}
	}
}

// P4.1, P4.3: of all pairs of few numbers, as the chapter tells it; that is the order of their bytes.
func TestCompareIsOrderOfBytes(t *testing.T) {
	all := pairs()
	for _, a := range all {
		for _, b := range all {
			want := stands(a, b)
			if got := Compare(a, b); got != want {
				t.Fatalf("Compare(%v, %v) = %d, not %d", a, b, got, want)
			}
			if got := strings.Compare(Bytes(a.From)+Bytes(a.To), Bytes(b.From)+Bytes(b.To)); got != want {
				t.Fatalf("the bytes of %v and %v stand %d, not %d", a, b, got, want)
			}
		}
	}
}

// P4.2: bytes and texts of addresses, each written by hand: they are told, and read.
func TestWritten(t *testing.T) {
	for _, x := range []struct {
		a           api.Addr
		bytes, text string
	}{
		{api.Addr{}, "\x00\x00\x00\x00\x00\x00", "0.0.0.0:0"},
		{api.Addr{IP: 0x0a000001, Port: 80}, "\x0a\x00\x00\x01\x00\x50", "10.0.0.1:80"},
		{api.Addr{IP: 0x01020304, Port: 0x0506}, "\x01\x02\x03\x04\x05\x06", "1.2.3.4:1286"},
		{api.Addr{IP: 0xc0a8640a, Port: 10}, "\xc0\xa8\x64\x0a\x00\x0a", "192.168.100.10:10"},
		{api.Addr{IP: 0x6463090a, Port: 100}, "\x64\x63\x09\x0a\x00\x64", "100.99.9.10:100"},
		{api.Addr{IP: 0x80000000, Port: 0x8000}, "\x80\x00\x00\x00\x80\x00", "128.0.0.0:32768"},
		{api.Addr{IP: 0x000000ff, Port: 0xff00}, "\x00\x00\x00\xff\xff\x00", "0.0.0.255:65280"},
		{api.Addr{Port: 1}, "\x00\x00\x00\x00\x00\x01", "0.0.0.0:1"},
		{api.Addr{IP: 1 << 24}, "\x01\x00\x00\x00\x00\x00", "1.0.0.0:0"},
		{api.Addr{IP: math.MaxUint32, Port: math.MaxUint16}, "\xff\xff\xff\xff\xff\xff", "255.255.255.255:65535"},
	} {
		if got := Bytes(x.a); got != x.bytes {
			t.Errorf("Bytes(%v) = %q, not %q", x.a, got, x.bytes)
		}
		if got := Text(x.a); got != x.text {
			t.Errorf("Text(%v) = %q, not %q", x.a, got, x.text)
		}
		if a, e := Read(x.bytes); a != x.a || e != api.OK {
			t.Errorf("Read(%q) = %v, %v", x.bytes, a, e)
		}
		if a, e := Parse(x.text); a != x.a || e != api.OK {
			t.Errorf("Parse(%q) = %v, %v", x.text, a, e)
		}
	}
}

// P4.2: ErrForm, and no address, of bytes that are not six.
func TestReadRefuses(t *testing.T) {
	for n := range 300 {
		s := strings.Repeat("\x01", n)
		want, err := api.Addr{}, api.ErrForm
		if n == 6 {
			want, err = api.Addr{IP: 0x01010101, Port: 0x0101}, api.OK
		}
		if a, e := Read(s); a != want || e != err {
			t.Errorf("Read of %d bytes: %v, %v", n, a, e)
		}
	}
	for _, s := range []string{"\x00\x00\x00\x00\x00", "\x00\x00\x00\x00\x00\x00\x00", "10.0.0.1:80", strings.Repeat("\xff", 1<<20)} {
		if a, e := Read(s); a != (api.Addr{}) || e != api.ErrForm {
			t.Errorf("Read of %d bytes: %v, %v", len(s), a, e)
		}
	}
}

// P4.2: a number with a nought ahead of another digit is none, at each of the five places; a nought alone is one.
func TestParseRefusesNoughts(t *testing.T) {
	for _, s := range []string{
		"10.0.0.01:80", "10.0.00.1:80", "10.00.0.1:80", "010.0.0.1:80", "10.0.0.1:080",
		"00.0.0.0:0", "0.0.0.0:00", "0.0.0.00:0", "1.2.3.4:00005", "000.000.000.000:0", "1.2.3.0004:5",
	} {
		refuse(t, s)
	}
}

// P4.2: numbers too great for a byte, or for a port, also such as come back to small ones at their size or at 2^64.
func TestParseRefusesGreat(t *testing.T) {
	for _, great := range []string{"256", "257", "260", "300", "999", "1000", "2560", "65536", "4294967296", "4294967297", "18446744073709551616", "18446744073709551617", strings.Repeat("9", 1000)} {
		refuse(t, great+".0.0.1:80")
		refuse(t, "10."+great+".0.1:80")
		refuse(t, "10.0."+great+".1:80")
		refuse(t, "10.0.0."+great+":80")
	}
	for _, great := range []string{"65536", "65537", "65540", "70000", "99999", "100000", "4294967296", "18446744073709551616", "18446744073709551617", strings.Repeat("9", 1000)} {
		refuse(t, "10.0.0.1:"+great)
	}
}

// P4.2: texts that lack a part, have one too many, or something ahead, between or behind.
func TestParseRefusesParts(t *testing.T) {
	for _, s := range []string{
		"", ":", ".", "...", "...:", "...:80", ":80", "80", "1.2.3.4", "1.2.3.4:", "1.2.3:4", "1.2:3", "1:2", "1.2.3.4.5",
		"1.2.3.4.5:6", "1.2.3.4.5.6:7", "1.2.3.4.:5", ".1.2.3.4:5", "1..3.4:5", "1.2..4:5", "1.2.3.:4", ".2.3.4:5", "1.2.3.4..5:6",
		"1.2.3.4:5:6", "1.2.3.4:5:", "1.2.3.4::5", ":1.2.3.4:5", "1:2.3.4:5", "1.2.3:4:5", "1.2.3.4.5", "1:2:3:4:5", "1.2.3.4:5.6", "1.2.3.4:.5", "1.2.3.4:5.",
		"1.2.3.4:5 ", " 1.2.3.4:5", "1.2.3.4: 5", "1.2.3.4 :5", "1. 2.3.4:5", "1.2.3.4:5\n", "1.2.3.4:5\x00", "\x001.2.3.4:5", "1.2.3.4:5x", "x1.2.3.4:5",
		"+1.2.3.4:5", "1.2.3.4:+5", "-1.2.3.4:5", "1.2.3.4:-5", "-0.0.0.0:0", "0.0.0.0:-0", "1.2.3.4:1_0", "1_0.2.3.4:5", "1.2.3.4:1e2", "1.2.3.4:5.0",
		"0x1.2.3.4:5", "1.2.3.4:0x5", "1.2.3.a:5", "1.2.3.4:http", "a.b.c.d:e", "1,2,3,4:5", "1.2.3.4;5", "1.2.3.4/5", "[1.2.3.4]:5", "::1", "[::1]:80", "localhost:80",
		"\u0661.2.3.4:5", "1.2.3.4:\u0665", "1\uff0e2.3.4:5", "1.2.3.4:5\xff", "\xb1.2.3.4:5",
		strings.Repeat("1.", 1<<16) + "1:1", strings.Repeat("1", 1<<16), strings.Repeat(".", 1<<16), strings.Repeat("1.2.3.4:5", 2), strings.Repeat("0", 1<<16) + ".0.0.0:0",
	} {
		refuse(t, s)
	}
}

// P4.2: each byte and each port is told and read, at each of its places, and the numbers next to the greatest ones are not.
func TestEachNumber(t *testing.T) {
	for place := range 4 {
		for n := range 300 {
			parts := []string{"1", "2", "3", "4"}
			parts[place] = strconv.Itoa(n)
			s := strings.Join(parts, ".") + ":5"
			if n > 255 {
				refuse(t, s)
				continue
			}
			shift := 8 * (3 - place)
			want := api.Addr{IP: 0x01020304&^(255<<shift) | uint32(n)<<shift, Port: 5}
			if a, e := Parse(s); a != want || e != api.OK || Text(want) != s {
				t.Errorf("Parse(%q) = %v, %v; Text(%v) = %q", s, a, e, want, Text(want))
			}
		}
	}
	for n := range 66000 {
		s := "1.2.3.4:" + strconv.Itoa(n)
		if n > 65535 {
			refuse(t, s)
			continue
		}
		want := api.Addr{IP: 0x01020304, Port: uint16(n)}
		if a, e := Parse(s); a != want || e != api.OK || Text(want) != s {
			t.Errorf("Parse(%q) = %v, %v; Text(%v) = %q", s, a, e, want, Text(want))
		}
	}
}

// P4.2: texts that are an address's but for one byte put in, left out, or turned into another one, as the chapter tells it.
func TestParseNearTexts(t *testing.T) {
	form := form()
	check := func(s string) {
		want, err := meant(form, s)
		if a, e := Parse(s); a != want || e != err {
			t.Fatalf("Parse(%q) = %v, %v, not %v, %v", s, a, e, want, err)
		}
	}
	for _, s := range []string{"0.0.0.0:0", "10.0.0.1:80", "255.255.255.255:65535", "25.199.209.249:6553", "1.2.3.4:9999"} {
		check(s)
		for i := range len(s) + 1 {
			for c := range 256 {
				b := string([]byte{byte(c)})
				check(s[:i] + b + s[i:])
				if i < len(s) {
					check(s[:i] + b + s[i+1:])
				}
			}
			for j := i; j <= len(s); j++ {
				check(s[:i] + s[j:])
				check(s[i:j])
			}
		}
	}
}

// P4.3: what was written is read, and addresses that are not the same have other bytes and other texts.
func TestWrittenIsRead(t *testing.T) {
	bytes, texts := map[string]api.Addr{}, map[string]api.Addr{}
	for _, a := range addrs() {
		b, s := Bytes(a), Text(a)
		if got, e := Read(b); got != a || e != api.OK {
			t.Errorf("%v becomes %q: %v, %v", a, b, got, e)
		}
		if got, e := Parse(s); got != a || e != api.OK {
			t.Errorf("%v becomes %q: %v, %v", a, s, got, e)
		}
		if other, found := bytes[b]; found {
			t.Errorf("%v and %v have the bytes %q", other, a, b)
		}
		if other, found := texts[s]; found {
			t.Errorf("%v and %v have the text %q", other, a, s)
		}
		bytes[b], texts[s] = a, a
	}
}

// P4.3: so it is when bytes were there first: what is read is written as it stood.
func TestReadIsWritten(t *testing.T) {
	for place := range size {
		for n := range 256 {
			b := []byte("\x01\x02\x03\x04\x05\x06")
			b[place] = byte(n)
			a, e := Read(string(b))
			if e != api.OK || Bytes(a) != string(b) {
				t.Errorf("%q is read as %v, %v, and written as %q", b, a, e, Bytes(a))
			}
		}
	}
}

// The chapter's examples.
func TestExamples(t *testing.T) {
	if got := Text(api.Addr{IP: 10<<24 + 1, Port: 80}); got != "10.0.0.1:80" {
		t.Errorf("Text: %q", got)
	}
	for _, s := range []string{"10.0.0.01:80", "10.0.0.256:80", "10.0.0.1"} {
		refuse(t, s)
	}
}
