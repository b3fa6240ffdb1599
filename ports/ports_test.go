package ports

import (
	"math"
	"slices"
	"testing"

	"transom/api"
)

const last = 1 << 44 // the last time, as the chapter of layer 9 tells it

// begin is the ports from low to high.
func begin(t *testing.T, low, high uint16) *Ports {
	t.Helper()
	p, e := New(low, high)
	if p == nil || e != api.OK {
		t.Fatalf("New(%d, %d) = %v, %v", low, high, p, e)
	}
	return p
}

// takes takes ports that must be those told, all at now.
func takes(t *testing.T, p *Ports, now int64, want ...uint16) {
	t.Helper()
	for i, port := range want {
		if got, e := p.Take(now); got != port || e != api.OK {
			t.Fatalf("Take(%d), the %dth = %d, %v, not %d", now, i, got, e, port)
		}
	}
}

// full takes what must be refused, as there is none at now.
func full(t *testing.T, p *Ports, now int64) {
	t.Helper()
	if got, e := p.Take(now); got != 0 || e != api.ErrFull {
		t.Fatalf("Take(%d) = %d, %v", now, got, e)
	}
}

// gives gives ports back that must be lent, all until one time.
func gives(t *testing.T, p *Ports, until int64, l ...uint16) {
	t.Helper()
	for _, port := range l {
		if e := p.Give(port, until); e != api.OK {
			t.Fatalf("Give(%d, %d) = %v", port, until, e)
		}
	}
}

// lent holds the ports that are lent against those that must be.
func lent(t *testing.T, p *Ports, want ...uint16) {
	t.Helper()
	if got := p.Lent(); !slices.Equal(got, want) {
		t.Fatalf("Lent() = %v, not %v", got, want)
	}
}

// a plan is ports as the chapter tells them: each is lent, or free from a time on.
type plan struct {
	low, on uint16
	lent    []bool
	from    []int64
}

func newPlan(low, high uint16) *plan {
	n := int(high) - int(low) + 1
	return &plan{low: low, on: low, lent: make([]bool, n), from: make([]int64, n)}
}

func (p *plan) Take(now int64) (uint16, api.Errno) {
	if now < 0 || now > last {
		return 0, api.ErrArg
	}
	n := len(p.lent)
	for by := range n {
		i := (int(p.on-p.low) + by) % n
		if p.lent[i] || p.from[i] > now {
			continue
		}
		p.lent[i] = true
		p.on = p.low + uint16((i+1)%n)
		return p.low + uint16(i), api.OK
	}
	return 0, api.ErrFull
}

func (p *plan) Give(port uint16, until int64) api.Errno {
	if until < 0 || until > last {
		return api.ErrArg
	}
	i := int(port) - int(p.low)
	if i < 0 || i >= len(p.lent) || !p.lent[i] {
		return api.ErrNone
	}
	p.lent[i], p.from[i] = false, until
	return api.OK
}

func (p *plan) Lent() []uint16 {
	var l []uint16
	for i, is := range p.lent {
		if is {
			l = append(l, p.low+uint16(i))
		}
	}
	return l
}

func (p *plan) Free(now int64) int {
	n := 0
	for i, is := range p.lent {
		if !is && p.from[i] <= now {
			n++
		}
	}
	return n
}

// P11.1: low is from 1 to high; all ports are free then, from 0 on, and the first one is low.
func TestNew(t *testing.T) {
	edges := []uint16{0, 1, 2, 3, 255, 256, 1023, 1024, 32767, 32768, 49152, 65533, 65534, 65535}
	for _, low := range edges {
		for _, high := range edges {
			p, e := New(low, high)
			if low == 0 || low > high {
				if p != nil || e != api.ErrArg {
					t.Errorf("New(%d, %d) = %v, %v", low, high, p, e)
				}
				continue
			}
			if p == nil || e != api.OK {
				t.Errorf("New(%d, %d) = %v, %v", low, high, p, e)
				continue
			}
			n := int(high) - int(low) + 1
			if len(p.Lent()) != 0 || p.Free(0) != n || p.Free(-1) != 0 {
				t.Errorf("New(%d, %d): %v are lent, %d are free, %d ahead of 0", low, high, p.Lent(), p.Free(0), p.Free(-1))
			}
			takes(t, p, 0, low)
			lent(t, p, low)
			if p.Free(0) != n-1 {
				t.Errorf("New(%d, %d): %d are free behind a Take", low, high, p.Free(0))
			}
		}
	}
}

// P11.1, P11.2: the chapter's example.
func TestExample(t *testing.T) {
	p := begin(t, 1, 3)
	takes(t, p, 0, 1, 2)
	gives(t, p, 9, 1)
	takes(t, p, 5, 3)
	full(t, p, 5)
	takes(t, p, 9, 1)
}

// P11.1: what is no time is refused, ahead of ErrFull, and changes nothing.
func TestTakeAt(t *testing.T) {
	for _, now := range []int64{math.MinInt64, -last, -1, 0, 1, 1 << 32, last - 1, last, last + 1, math.MaxInt64} {
		p := begin(t, 7, 8)
		may := now >= 0 && now <= last
		for i, port := range []uint16{7, 8, 0} {
			was := p.Lent()
			want := api.OK
			switch {
			case !may:
				port, want = 0, api.ErrArg
			case i == 2:
				want = api.ErrFull
			}
			if got, e := p.Take(now); got != port || e != want {
				t.Errorf("Take(%d), the %dth = %d, %v, not %d, %v", now, i, got, e, port, want)
			}
			if want != api.OK {
				lent(t, p, was...)
			}
		}
		if may {
			continue
		}
		takes(t, p, 0, 7, 8)
		if got, e := p.Take(now); got != 0 || e != api.ErrArg {
			t.Errorf("where all are lent, Take(%d) = %d, %v", now, got, e)
		}
	}
}

// P11.1: one looks on behind the port that was lent last, though ports below it are free; low comes behind high.
func TestRound(t *testing.T) {
	p := begin(t, 10, 14)
	takes(t, p, 0, 10, 11)
	gives(t, p, 0, 10, 11)
	takes(t, p, 0, 12, 13, 14, 10)
	gives(t, p, 0, 13)
	takes(t, p, 0, 11, 13)
	full(t, p, 0)
	// It is behind 13 that one looks on: those are passed that are lent.
	gives(t, p, 0, 12, 10)
	takes(t, p, 0, 10, 12)
	gives(t, p, 0, 11, 14)
	takes(t, p, 0, 14, 11)
	lent(t, p, 10, 11, 12, 13, 14)
}

// P11.1: what is refused leaves where to look on as it was, and so does what is given back.
func TestRoundStays(t *testing.T) {
	p := begin(t, 1, 4)
	takes(t, p, 0, 1, 2, 3, 4)
	gives(t, p, 0, 2)
	takes(t, p, 0, 2)
	full(t, p, last)
	if _, e := p.Take(-1); e != api.ErrArg {
		t.Error(e)
	}
	gives(t, p, 0, 4, 1, 3)
	if e := p.Give(1, 0); e != api.ErrNone {
		t.Error(e)
	}
	takes(t, p, 0, 3, 4, 1)
}

// P11.1: a row of one port.
func TestOne(t *testing.T) {
	for _, port := range []uint16{1, 2, 256, 65534, 65535} {
		p := begin(t, port, port)
		for now := range int64(5) {
			takes(t, p, now, port)
			full(t, p, last)
			lent(t, p, port)
			gives(t, p, now+1, port)
			full(t, p, now)
			lent(t, p)
		}
	}
}

// P11.1: all ports of a row can be lent, each once, up to the greatest row; behind 65535 comes low.
func TestAll(t *testing.T) {
	for _, x := range []struct{ low, high uint16 }{{1, 65535}, {1, 1000}, {65000, 65535}, {49152, 65535}} {
		p := begin(t, x.low, x.high)
		var want []uint16
		for port := int(x.low); port <= int(x.high); port++ {
			want = append(want, uint16(port))
		}
		takes(t, p, 0, want...)
		full(t, p, 0)
		full(t, p, last)
		lent(t, p, want...)
		if p.Free(last) != 0 {
			t.Errorf("%d are free", p.Free(last))
		}
		gives(t, p, 0, x.high)
		takes(t, p, 0, x.high)
		gives(t, p, 0, x.high, x.low)
		takes(t, p, 0, x.low, x.high)
	}
}

// P11.1: a port is free at the time that it was given back until, and not a tick ahead of it; the time need not go on.
func TestFrom(t *testing.T) {
	for _, until := range []int64{1, 2, 255, 1 << 31, 1 << 32, last - 1, last} {
		p := begin(t, 5, 6)
		takes(t, p, last, 5, 6)
		gives(t, p, until, 5)
		full(t, p, 0)
		full(t, p, until-1)
		takes(t, p, until, 5)
		// A port that was lent anew has left its time behind.
		gives(t, p, 0, 5)
		takes(t, p, 0, 5)
		gives(t, p, until, 6)
		full(t, p, until-1)
		gives(t, p, until-1, 5)
		takes(t, p, until-1, 5)
		full(t, p, until-1)
		takes(t, p, last, 6)
	}
}

// P11.2: until is a time, and the port is lent: ErrArg counts ahead of ErrNone; what is refused changes nothing.
func TestGive(t *testing.T) {
	for _, until := range []int64{math.MinInt64, -last, -1, 0, 1, last - 1, last, last + 1, math.MaxInt64} {
		may := until >= 0 && until <= last
		// 10 and 12 are lent, 11 was given back, 13 was never lent, the others are none of the row's.
		for _, port := range []uint16{0, 1, 9, 10, 11, 12, 13, 14, 266, 65535} {
			p := begin(t, 10, 13)
			takes(t, p, 0, 10, 11, 12)
			gives(t, p, 50, 11)
			want := api.OK
			switch {
			case !may:
				want = api.ErrArg
			case port != 10 && port != 12:
				want = api.ErrNone
			}
			if e := p.Give(port, until); e != want {
				t.Errorf("Give(%d, %d) = %v, not %v", port, until, e, want)
			}
			if want == api.OK {
				lent(t, p, 10+12-port)
				if e := p.Give(port, until); e != api.ErrNone {
					t.Errorf("Give(%d, %d) twice = %v", port, until, e)
				}
				continue
			}
			lent(t, p, 10, 12)
			if p.Free(49) != 1 || p.Free(50) != 2 {
				t.Errorf("behind Give(%d, %d) there are %d, %d free", port, until, p.Free(49), p.Free(50))
			}
			takes(t, p, 49, 13)
			takes(t, p, 50, 11)
		}
	}
}

// P11.2: the ports that are lent, rising, whatever the order in which they were lent.
func TestLent(t *testing.T) {
	p := begin(t, 250, 260)
	takes(t, p, 0, 250, 251, 252, 253, 254, 255, 256, 257, 258, 259)
	gives(t, p, 0, 254, 250, 259, 257, 252)
	lent(t, p, 251, 253, 255, 256, 258)
	takes(t, p, 0, 260, 250, 252)
	lent(t, p, 250, 251, 252, 253, 255, 256, 258, 260)
	gives(t, p, last, 250, 251, 252, 253, 255, 256, 258, 260)
	lent(t, p)
}

// P11.2: those that are free at any number, be it a time or not.
func TestFree(t *testing.T) {
	p := begin(t, 1, 6)
	takes(t, p, 0, 1, 2, 3, 4, 5)
	gives(t, p, 5, 1)
	gives(t, p, 9, 2)
	gives(t, p, last, 3)
	gives(t, p, 0, 4)
	for _, x := range []struct {
		now int64
		n   int
	}{
		{math.MinInt64, 0}, {-last, 0}, {-1, 0}, {0, 2}, {4, 2}, {5, 3}, {8, 3}, {9, 4}, {last - 1, 4}, {last, 5}, {last + 1, 5}, {math.MaxInt64, 5},
	} {
		if n := p.Free(x.now); n != x.n {
			t.Errorf("Free(%d) = %d, not %d", x.now, n, x.n)
		}
	}
	// A port whose time has come is free as any other one, until it is lent.
	takes(t, p, 5, 6, 1)
	if p.Free(5) != 1 || p.Free(last) != 3 || p.Free(-1) != 0 {
		t.Error(p.Free(5), p.Free(last), p.Free(-1))
	}
	takes(t, p, last, 2, 3, 4)
	if p.Free(math.MaxInt64) != 0 || p.Free(-1) != 0 {
		t.Error("there are free ones where all are lent")
	}
}

// P11.1 to P11.3: rows of calls answer what the chapter tells; no port is lent twice, nor ahead of its time.
func TestRows(t *testing.T) {
	seed := uint32(1)
	draw := func(n int) int {
		seed = seed*1664525 + 1013904223
		return int(seed>>8) % n
	}
	for _, x := range []struct{ low, high uint16 }{{1, 1}, {1, 2}, {1, 7}, {100, 120}, {65529, 65535}, {65535, 65535}, {250, 300}} {
		for _, slow := range []int{1, 3, 40} {
			p, as := begin(t, x.low, x.high), newPlan(x.low, x.high)
			given, out := map[uint16]int64{}, map[uint16]bool{}
			now := int64(0)
			for step := range 3000 {
				// The time goes on, mostly; now and then it is far, or none.
				now = []int64{now, now + int64(draw(slow)), max(0, now-int64(draw(9))), now}[draw(4)]
				at := []int64{now, now, now, now, now, -1, last + 1, last}[draw(4+draw(2)*4)]
				port := x.low - 1 + uint16(draw(int(x.high-x.low)+3))
				if draw(2) == 0 {
					got, e := p.Take(at)
					if want, wants := as.Take(at); got != want || e != wants {
						t.Fatalf("%v, step %d: Take(%d) = %d, %v, not %d, %v", x, step, at, got, e, want, wants)
					}
					if e == api.OK && (out[got] || given[got] > at) {
						t.Fatalf("%v, step %d: Take(%d) = %d, which is lent, or free from %d on", x, step, at, got, given[got])
					}
					if e == api.OK {
						out[got] = true
					}
				} else {
					until := []int64{at, now + int64(draw(20)), now + int64(draw(20)), 0}[draw(4)]
					e := p.Give(port, until)
					if want := as.Give(port, until); e != want {
						t.Fatalf("%v, step %d: Give(%d, %d) = %v, not %v", x, step, port, until, e, want)
					}
					if e == api.OK {
						out[port], given[port] = false, until
					}
				}
				lent(t, p, as.Lent()...)
				for _, at := range []int64{-1, 0, now - 1, now, now + 5, last, math.MaxInt64} {
					if n, want := p.Free(at), as.Free(at); n != want {
						t.Fatalf("%v, step %d: Free(%d) = %d, not %d", x, step, at, n, want)
					}
				}
			}
		}
	}
}

// P11.3: also in the greatest row, some rounds on, no port is lent twice, nor ahead of its time.
func TestNoneTwice(t *testing.T) {
	p := begin(t, 1, 65535)
	var out [65536]bool
	var from [65536]int64
	give := func(port uint16, until int64) {
		gives(t, p, until, port)
		out[port], from[port] = false, until
	}
	for now := range int64(200_000) {
		port, e := p.Take(now)
		if e != api.OK || port == 0 || out[port] || from[port] > now {
			t.Fatalf("Take(%d) = %d, %v; it is lent: %t, free from %d on", now, port, e, out[port], from[port])
		}
		out[port] = true
		// One of three stays lent, till another round comes to it.
		if now%3 != 0 {
			give(port, now+10_000)
		} else if back := port - 300; now > 150_000 && out[back] {
			give(back, now)
		}
		if now%10_000 == 0 && p.Free(math.MaxInt64)+len(p.Lent()) != 65535 {
			t.Fatal("a port is neither lent nor free, or both")
		}
	}
}

// P11.1, P11.2, R3: of nil, and of ports that New did not make.
func TestNil(t *testing.T) {
	for _, p := range []*Ports{nil, {}, new(Ports)} {
		for _, now := range []int64{-1, 0, last, last + 1} {
			if port, e := p.Take(now); port != 0 || e != api.ErrNil {
				t.Errorf("Take(%d) = %d, %v", now, port, e)
			}
			if e := p.Give(1, now); e != api.ErrNil {
				t.Errorf("Give(1, %d) = %v", now, e)
			}
			if p.Free(now) != 0 {
				t.Errorf("Free(%d) = %d", now, p.Free(now))
			}
		}
		if len(p.Lent()) != 0 {
			t.Errorf("Lent() = %v", p.Lent())
		}
	}
}

// R5, R6: an answer is new memory, and ports don't meet others.
func TestApart(t *testing.T) {
	p, other := begin(t, 1, 4), begin(t, 1, 4)
	takes(t, p, 0, 1, 2, 3)
	l := p.Lent()
	l[0] = 9
	lent(t, p, 1, 2, 3)
	l = p.Lent()
	gives(t, p, 0, 2)
	if !slices.Equal(l, []uint16{1, 2, 3}) {
		t.Error("a list that was answered has become", l)
	}
	takes(t, other, 0, 1)
	lent(t, other, 1)
	gives(t, other, 7, 1)
	lent(t, p, 1, 3)
	takes(t, p, 0, 4, 2)
	full(t, p, 0)
	takes(t, other, 0, 2, 3, 4)
	full(t, other, 6)
	takes(t, other, 7, 1)
}
