package wheel

import (
	"math"
	"slices"
	"testing"

	"transom/api"
)

const (
	last = 1 << 44 // the last time, as the chapter of layer 9 tells it
	most = 1 << 12 // the most timers of a wheel
)

// begin is a wheel of texts at now that has room for most timers.
func begin(t *testing.T, now int64, most int) *Wheel[string] {
	t.Helper()
	w, e := New[string](now, most)
	if w == nil || e != api.OK {
		t.Fatalf("New(%d, %d) = %v, %v", now, most, w, e)
	}
	return w
}

// set sets timers that must be set.
func set(t *testing.T, w *Wheel[string], l ...Due[string]) {
	t.Helper()
	for _, x := range l {
		if e := w.Set(x.Key, x.At); e != api.OK {
			t.Fatalf("Set(%q, %d) = %v", x.Key, x.At, e)
		}
	}
}

// told holds what Go tells against what it must tell.
func told(t *testing.T, w *Wheel[string], now int64, want ...Due[string]) {
	t.Helper()
	if got, e := w.Go(now); e != api.OK || !slices.Equal(got, want) {
		t.Errorf("Go(%d) = %v, %v, not %v", now, got, e, want)
	}
	if w.Now() != now {
		t.Errorf("behind Go(%d) it is %d", now, w.Now())
	}
}

// a plan is a wheel as the chapter tells it: timers in the order in which they were set.
type plan[K comparable] struct {
	now    int64
	most   int
	timers []Due[K]
}

func (p *plan[K]) Set(key K, at int64) api.Errno {
	if at < 0 || at > last || at <= p.now {
		return api.ErrArg
	}
	p.Stop(key)
	if len(p.timers) >= p.most {
		return api.ErrFull
	}
	p.timers = append(p.timers, Due[K]{key, at})
	return api.OK
}

func (p *plan[K]) Stop(keys ...K) int {
	was := len(p.timers)
	p.timers = slices.DeleteFunc(p.timers, func(x Due[K]) bool { return slices.Contains(keys, x.Key) })
	return was - len(p.timers)
}

func (p *plan[K]) Go(now int64) ([]Due[K], api.Errno) {
	switch {
	case now < 0 || now > last:
		return nil, api.ErrArg
	case now < p.now:
		return nil, api.ErrOver
	}
	p.now = now
	var due []Due[K]
	for {
		// Of those that are due the first one whose time is the least: a plain search, time and again.
		at := -1
		for i, x := range p.timers {
			if x.At <= now && (at < 0 || x.At < p.timers[at].At) {
				at = i
			}
		}
		if at < 0 {
			return due, api.OK
		}
		due = append(due, p.timers[at])
		p.timers = slices.Delete(p.timers, at, at+1)
	}
}

func (p *plan[K]) At(key K) (int64, bool) {
	for _, x := range p.timers {
		if x.Key == key {
			return x.At, true
		}
	}
	return 0, false
}

func (p *plan[K]) Next() (int64, bool) {
	if len(p.timers) == 0 {
		return 0, false
	}
	return slices.MinFunc(p.timers, func(a, b Due[K]) int { return int(max(-1, min(1, a.At-b.At))) }).At, true
}

// as holds a wheel against a plan, with the keys below n.
func as(t *testing.T, w *Wheel[int], p *plan[int], n int) {
	t.Helper()
	if w.Len() != len(p.timers) || w.Now() != p.now {
		t.Fatalf("%d timers at %d, not %d at %d", w.Len(), w.Now(), len(p.timers), p.now)
	}
	at, is := w.Next()
	if want, wants := p.Next(); at != want || is != wants {
		t.Fatalf("Next() = %d, %t, not %d, %t", at, is, want, wants)
	}
	for key := -1; key <= n; key++ {
		at, is := w.At(key)
		if want, wants := p.At(key); at != want || is != wants {
			t.Fatalf("At(%d) = %d, %t, not %d, %t", key, at, is, want, wants)
		}
	}
}

// P10.1: a wheel begins at a time, with room for 0 to MaxTimers, and without timers.
func TestNew(t *testing.T) {
	for _, now := range []int64{math.MinInt64, -last, -1, 0, 1, 1 << 32, last - 1, last, last + 1, math.MaxInt64} {
		for _, room := range []int{math.MinInt, -most, -1, 0, 1, 2, most - 1, most, most + 1, 1 << 31, math.MaxInt} {
			w, e := New[int](now, room)
			if now < 0 || now > last || room < 0 || room > most {
				if w != nil || e != api.ErrArg {
					t.Errorf("New(%d, %d) = %v, %v", now, room, w, e)
				}
				continue
			}
			if w == nil || e != api.OK || w.Len() != 0 || w.Now() != now {
				t.Errorf("New(%d, %d) = %v, %v", now, room, w, e)
				continue
			}
			if at, is := w.Next(); at != 0 || is {
				t.Errorf("New(%d, %d): Next() = %d, %t", now, room, at, is)
			}
		}
	}
}

// P10.1: a timer's time is a time, and above now; what is refused changes nothing, not even the timer that it would replace.
func TestSetAt(t *testing.T) {
	for _, now := range []int64{0, 1, 255, 256, 1 << 32, last - 1, last} {
		for _, at := range []int64{math.MinInt64, -last, -1, 0, 1, 2, 254, 255, 256, 257, 1<<32 - 1, 1 << 32, 1<<32 + 1, last - 1, last, last + 1, math.MaxInt64} {
			w := begin(t, now, 2)
			want := api.OK
			if at <= now || at > last {
				want = api.ErrArg
			}
			if e := w.Set("a", at); e != want || w.Len() != 0 && e != api.OK {
				t.Errorf("at %d, Set(%d) = %v, not %v; %d timers", now, at, e, want, w.Len())
			}
			if got, is := w.At("a"); is != (want == api.OK) || is && got != at || !is && got != 0 {
				t.Errorf("at %d, behind Set(%d): %d, %t", now, at, got, is)
			}
			if now == last {
				continue
			}
			set(t, w, Due[string]{"a", last}, Due[string]{"b", last})
			if e := w.Set("a", at); e != want {
				t.Errorf("at %d, Set(%d) anew = %v, not %v", now, at, e, want)
			}
			if want != api.OK {
				told(t, w, last, Due[string]{"a", last}, Due[string]{"b", last})
			}
		}
	}
}

// P10.1: ErrArg counts ahead of ErrFull; in a full wheel a timer can be set anew, and no other one.
func TestSetFull(t *testing.T) {
	w := begin(t, 10, 0)
	if e := w.Set("a", 11); e != api.ErrFull {
		t.Error(e)
	}
	if e := w.Set("a", 10); e != api.ErrArg {
		t.Error(e)
	}
	if w.Stop("a") != 0 || w.Len() != 0 {
		t.Error("there is one where there is no room")
	}

	w = begin(t, 10, 2)
	set(t, w, Due[string]{"a", 20}, Due[string]{"b", 20})
	for _, x := range []struct {
		key string
		at  int64
		e   api.Errno
	}{
		{"c", 20, api.ErrFull}, {"c", 10, api.ErrArg}, {"c", last + 1, api.ErrArg}, {"a", 10, api.ErrArg}, {"a", 20, api.OK}, {"c", 11, api.ErrFull},
	} {
		if e := w.Set(x.key, x.at); e != x.e || w.Len() != 2 {
			t.Errorf("Set(%q, %d) = %v, not %v; %d timers", x.key, x.at, e, x.e, w.Len())
		}
	}
	told(t, w, 19)
	told(t, w, 20, Due[string]{"b", 20}, Due[string]{"a", 20})
	// Those that went have left their room.
	set(t, w, Due[string]{"c", 21}, Due[string]{"d", 22})
	if e := w.Set("e", 23); e != api.ErrFull {
		t.Error(e)
	}
	w.Stop("c")
	set(t, w, Due[string]{"e", 23})
	told(t, w, last, Due[string]{"d", 22}, Due[string]{"e", 23})
}

// P10.1: MaxTimers is the most, and all of them are told.
func TestMaxTimers(t *testing.T) {
	for _, apart := range []int64{0, 1, 7, 256, last / most} {
		w, e := New[int](0, api.MaxTimers)
		if e != api.OK {
			t.Fatal(e)
		}
		for key := range most {
			if e := w.Set(key, last-int64(key)*apart); e != api.OK {
				t.Fatal(key, e)
			}
		}
		if e := w.Set(most, 1); e != api.ErrFull || w.Len() != most {
			t.Fatal(e, w.Len())
		}
		if e := w.Set(0, last); e != api.OK || w.Len() != most {
			t.Fatal(e, w.Len())
		}
		got, e := w.Go(last)
		if e != api.OK || len(got) != most || w.Len() != 0 {
			t.Fatal(e, len(got), w.Len())
		}
		for i, x := range got {
			want := most - 1 - i
			if apart == 0 {
				want = (i + 1) % most
			}
			if x.Key != want || x.At != last-int64(want)*apart {
				t.Fatalf("the %dth is %v, not that of %d", i, x, want)
			}
		}
	}
}

// P10.1: Stop takes those away that there are, each once, and tells how many.
func TestStop(t *testing.T) {
	w := begin(t, 0, 5)
	all := []Due[string]{{"a", 5}, {"b", 3}, {"c", 5}, {"d", 261}, {"e", 5}}
	set(t, w, all...)
	keys := []string{"x", "c", "", "c", "a", "y", "c"}
	was := slices.Clone(keys)
	for _, x := range []struct {
		keys []string
		n    int
	}{
		{nil, 0}, {[]string{}, 0}, {[]string{"x"}, 0}, {keys, 2}, {keys, 0}, {[]string{"b", "b"}, 1},
	} {
		before := w.Len()
		if n := w.Stop(x.keys...); n != x.n || w.Len() != before-n {
			t.Errorf("Stop(%q) = %d, not %d; %d timers", x.keys, n, x.n, w.Len())
		}
	}
	if !slices.Equal(keys, was) {
		t.Error("the keys are others")
	}
	for _, key := range []string{"a", "b", "c"} {
		if at, is := w.At(key); at != 0 || is {
			t.Errorf("At(%q) = %d, %t", key, at, is)
		}
	}
	told(t, w, last, Due[string]{"e", 5}, Due[string]{"d", 261})
	if w.Stop("e", "d") != 0 {
		t.Error("those that were told can be stopped")
	}
}

// P10.2: the chapter's example.
func TestExample(t *testing.T) {
	w := begin(t, 0, 3)
	set(t, w, Due[string]{"a", 5}, Due[string]{"b", 3}, Due[string]{"c", 5})
	told(t, w, 4, Due[string]{"b", 3})
	set(t, w, Due[string]{"a", 5})
	told(t, w, 9, Due[string]{"c", 5}, Due[string]{"a", 5})
}

// P10.2: the time of Go: ErrArg, ErrOver, and nothing changes with them; the same time again is one.
func TestGoAt(t *testing.T) {
	for _, now := range []int64{0, 1, 300, 1 << 32, last - 1, last} {
		for _, to := range []int64{math.MinInt64, -last, -1, 0, 1, 299, 300, 301, 1<<32 - 1, 1 << 32, last - 1, last, last + 1, math.MaxInt64} {
			w := begin(t, 0, 2)
			set(t, w, Due[string]{"b", 1}, Due[string]{"a", last})
			if _, e := w.Go(now); e != api.OK {
				t.Fatal(e)
			}
			want := api.OK
			switch {
			case to < 0 || to > last:
				want = api.ErrArg
			case to < now:
				want = api.ErrOver
			}
			was := w.Len()
			l, e := w.Go(to)
			if e != want {
				t.Errorf("from %d, Go(%d): %v, not %v", now, to, e, want)
			}
			if e != api.OK && (l != nil || w.Now() != now || w.Len() != was) {
				t.Errorf("from %d, Go(%d): %v, and it is %d", now, to, l, w.Now())
			}
			if to == now && (len(l) != 0 || w.Len() != was) {
				t.Errorf("twice Go(%d): %v", now, l)
			}
		}
	}
}

// P10.2: a timer is due at its time, and not a tick before it, however far that is.
func TestDue(t *testing.T) {
	for _, now := range []int64{0, 1, 200, 255, 256, 1<<20 + 5, last - 70_000} {
		for _, by := range []int64{1, 2, 63, 64, 65, 127, 128, 255, 256, 257, 511, 512, 513, 1023, 1024, 4095, 4096, 4097, 65535, 65536, 65537} {
			w := begin(t, now, 1)
			set(t, w, Due[string]{"a", now + by})
			if at, is := w.Next(); at != now+by || !is {
				t.Errorf("at %d, Next() = %d, %t", now, at, is)
			}
			told(t, w, now+by-1)
			if at, is := w.At("a"); at != now+by || !is {
				t.Errorf("a tick before it: %d, %t", at, is)
			}
			told(t, w, now+by, Due[string]{"a", now + by})
			if at, is := w.At("a"); at != 0 || is || w.Len() != 0 {
				t.Errorf("behind it: %d, %t, %d", at, is, w.Len())
			}
		}
	}
}

// P10.2: by rising times, of the same time as they were set; one that is set anew comes last.
func TestOrder(t *testing.T) {
	w := begin(t, 0, 9)
	set(t, w, Due[string]{"a", 700}, Due[string]{"b", 300}, Due[string]{"c", 44}, Due[string]{"d", 300}, Due[string]{"e", 1},
		Due[string]{"f", 556}, Due[string]{"g", 300}, Due[string]{"h", 257}, Due[string]{"b", 300}, Due[string]{"e", 700}, Due[string]{"a", 700})
	told(t, w, 5000, Due[string]{"c", 44}, Due[string]{"h", 257}, Due[string]{"d", 300}, Due[string]{"g", 300}, Due[string]{"b", 300},
		Due[string]{"f", 556}, Due[string]{"e", 700}, Due[string]{"a", 700})
}

// P10.2: as they were set, also of many timers that share few times.
func TestOrderOfMany(t *testing.T) {
	w, _ := New[int](0, most)
	p := &plan[int]{most: most}
	for i := range 2000 {
		key, at := i*i*31%1013, 1+int64(i*i*i%11)*128
		if got, want := w.Set(key, at), p.Set(key, at); got != want {
			t.Fatal(got, want)
		}
	}
	for _, now := range []int64{600, 5000} {
		got, _ := w.Go(now)
		if want, _ := p.Go(now); !slices.Equal(got, want) || len(want) < 100 {
			t.Fatalf("Go(%d) = %v, not %v", now, got, want)
		}
	}
}

// P10.2: as they were set, also if places become free in another order, and the times at which they were set are far from each other.
func TestOrderOfReused(t *testing.T) {
	w := begin(t, 0, 6)
	set(t, w, Due[string]{"a", 9}, Due[string]{"b", 9}, Due[string]{"c", 9}, Due[string]{"d", 9}, Due[string]{"e", 1000})
	w.Stop("c", "a", "d")
	set(t, w, Due[string]{"d", 1000}, Due[string]{"a", 9}, Due[string]{"c", 9})
	told(t, w, 9, Due[string]{"b", 9}, Due[string]{"a", 9}, Due[string]{"c", 9})
	told(t, w, 999)
	set(t, w, Due[string]{"c", 1000}, Due[string]{"b", 1000}, Due[string]{"e", 1000})
	told(t, w, 1000, Due[string]{"d", 1000}, Due[string]{"c", 1000}, Due[string]{"b", 1000}, Due[string]{"e", 1000})
}

// P10.2: the least time of all, near or far, and as timers go.
func TestNext(t *testing.T) {
	w := begin(t, 100, 6)
	for _, x := range []struct {
		key      string
		at, want int64
	}{
		{"a", last, last}, {"b", last - 1, last - 1}, {"c", 100 + 512, 100 + 512}, {"d", 100 + 256, 100 + 256}, {"e", 101 + 512, 100 + 256}, {"f", 101, 101},
	} {
		set(t, w, Due[string]{x.key, x.at})
		if at, is := w.Next(); at != x.want || !is {
			t.Errorf("behind Set(%q, %d): Next() = %d, %t, not %d", x.key, x.at, at, is, x.want)
		}
	}
	for _, x := range []struct {
		key  string
		want int64
	}{{"f", 356}, {"d", 612}, {"e", 612}, {"c", last - 1}, {"b", last}} {
		w.Stop(x.key)
		if at, is := w.Next(); at != x.want || !is {
			t.Errorf("behind Stop(%q): Next() = %d, %t, not %d", x.key, at, is, x.want)
		}
	}
	w.Stop("a")
	if at, is := w.Next(); at != 0 || is {
		t.Errorf("of none: %d, %t", at, is)
	}
}

// P10.1 to P10.3: rows of calls, as the chapter tells them: keys and times that are often the same, steps of time that are short, or longer than all slots.
func TestRows(t *testing.T) {
	for seed := range uint64(120) {
		x := seed*0x9e3779b97f4a7c15 + 1
		draw := func(n uint64) uint64 { // below n
			x ^= x << 13
			x ^= x >> 7
			x ^= x << 17
			return x >> 11 % n
		}
		const keys = 12
		room := []int{1, 3, 8, 30}[seed%4]
		spread := []uint64{3, 40, 300, 3000, 1 << 40}[seed%5]
		now := int64([]uint64{0, 250, last - 5000}[seed%3])
		w, _ := New[int](now, room)
		p := &plan[int]{now: now, most: room}
		for range 300 {
			switch key := int(draw(keys)); draw(8) {
			default:
				at := w.Now() + int64(draw(spread)) + int64(draw(8)) - 2
				if got, want := w.Set(key, at), p.Set(key, at); got != want {
					t.Fatalf("at %d, Set(%d, %d) = %v, not %v", w.Now(), key, at, got, want)
				}
			case 4:
				l := []int{key, int(draw(keys)), int(draw(2 * keys))}[:1+draw(3)]
				if got, want := w.Stop(l...), p.Stop(l...); got != want {
					t.Fatalf("Stop(%v) = %d, not %d", l, got, want)
				}
			case 5, 6, 7:
				to := w.Now() + int64(draw(spread)/4) + int64(draw(4)) - 1
				got, e := w.Go(to)
				want, wants := p.Go(to)
				if e != wants || !slices.Equal(got, want) {
					t.Fatalf("Go(%d) = %v, %v, not %v, %v", to, got, e, want, wants)
				}
			}
			as(t, w, p, keys)
		}
	}
}

// P10.3: each timer is told once, with the first Go that comes to its time, unless it was stopped or set anew.
func TestToldOnce(t *testing.T) {
	w := begin(t, 0, 9)
	set(t, w, Due[string]{"a", 3}, Due[string]{"b", 6}, Due[string]{"c", 6}, Due[string]{"d", 6})
	told(t, w, 2)
	told(t, w, 3, Due[string]{"a", 3})
	told(t, w, 3)
	w.Stop("b")
	set(t, w, Due[string]{"c", 8})
	told(t, w, 7, Due[string]{"d", 6})
	told(t, w, 7)
	// One that was told can be set, and is told, anew.
	set(t, w, Due[string]{"d", 8}, Due[string]{"a", 300})
	told(t, w, 299, Due[string]{"c", 8}, Due[string]{"d", 8})
	told(t, w, 300, Due[string]{"a", 300})
	told(t, w, last)
}

// P10.3: in whatever parts the time goes, the same is told in the same order.
func TestInParts(t *testing.T) {
	for _, now := range []int64{0, 77, 255, last - 3000} {
		for _, part := range []int64{1, 2, 7, 64, 100, 255, 256, 257, 600, 2999} {
			one, many := begin(t, now, 26), begin(t, now, 26)
			for i := range 26 {
				timer := Due[string]{string(rune('a' + i)), now + 1 + int64(i*i*i*37%2999)}
				if i%4 == 3 {
					timer.At = now + 256 + int64(i/8)
				}
				set(t, one, timer)
				set(t, many, timer)
			}
			want, e := one.Go(now + 3000)
			if e != api.OK || len(want) != 26 {
				t.Fatal(e, want)
			}
			var got []Due[string]
			for at := now; at < now+3000; {
				at = min(at+part, now+3000)
				l, e := many.Go(at)
				if e != api.OK {
					t.Fatal(e)
				}
				for _, x := range l {
					if x.At > at || x.At <= at-part {
						t.Errorf("%v is told at %d", x, at)
					}
				}
				got = append(got, l...)
			}
			if !slices.Equal(got, want) || many.Len() != 0 || many.Now() != one.Now() {
				t.Errorf("from %d in parts of %d: %v, not %v", now, part, got, want)
			}
		}
	}
}

// P10.1, P10.2, R3: nil, and a wheel that New did not make, have nothing and do nothing: ErrNil ahead of all other errors.
func TestNoWheel(t *testing.T) {
	for name, w := range map[string]*Wheel[string]{"nil": nil, "another one": {}} {
		for _, at := range []int64{-1, 0, 1, last, last + 1} {
			if e := w.Set("a", at); e != api.ErrNil {
				t.Errorf("%s: Set(%d) = %v", name, at, e)
			}
			if l, e := w.Go(at); l != nil || e != api.ErrNil {
				t.Errorf("%s: Go(%d) = %v, %v", name, at, l, e)
			}
		}
		if at, is := w.At("a"); at != 0 || is {
			t.Errorf("%s: At = %d, %t", name, at, is)
		}
		if at, is := w.Next(); at != 0 || is {
			t.Errorf("%s: Next = %d, %t", name, at, is)
		}
		if w.Stop() != 0 || w.Stop("a", "b") != 0 || w.Len() != 0 || w.Now() != 0 {
			t.Errorf("%s: it has something", name)
		}
	}
}

// P10.1, P10.2: keys of structs, arrays and texts are the same if what they hold is.
func TestKeys(t *testing.T) {
	type key struct {
		pair  api.Pair
		place [2]int
	}
	w, _ := New[key](0, 3)
	a := key{api.Pair{From: api.Addr{IP: 1, Port: 2}}, [2]int{3, 4}}
	b := a
	b.place[1] = 5
	if w.Set(a, 9) != api.OK || w.Set(b, 8) != api.OK || w.Set(a, 7) != api.OK || w.Len() != 2 {
		t.Fatal(w.Len())
	}
	if l, e := w.Go(9); e != api.OK || !slices.Equal(l, []Due[key]{{a, 7}, {b, 8}}) {
		t.Error(l, e)
	}
	n, _ := New[any](0, 3)
	if n.Set(1, 9) != api.OK || n.Set("1", 8) != api.OK || n.Set(int64(1), 7) != api.OK || n.Set(nil, 7) != api.ErrFull || n.Stop(1, nil) != 1 {
		t.Error("keys of several kinds are not told apart")
	}
}

// P10.1, P10.2, R1: a key that is not even itself is none of those that are there: it is set beside them, can't be asked for, nor be stopped, and is told; its room is free then.
func TestKeysThatAreNotThemselves(t *testing.T) {
	w, _ := New[float64](0, 3)
	for round := range int64(5) {
		now := round * 1000
		for range 3 {
			if e := w.Set(math.NaN(), now+300); e != api.OK {
				t.Fatal(e)
			}
		}
		if e := w.Set(math.NaN(), now+300); e != api.ErrFull || w.Len() != 3 {
			t.Fatal(e, w.Len())
		}
		if at, is := w.At(math.NaN()); at != 0 || is || w.Stop(math.NaN(), 0) != 0 {
			t.Fatal(at, is)
		}
		if at, is := w.Next(); at != now+300 || !is {
			t.Fatal(at, is)
		}
		l, e := w.Go(now + 1000)
		if e != api.OK || len(l) != 3 || l[0].Key == l[0].Key || l[2].At != now+300 || w.Len() != 0 || len(w.of) != 0 {
			t.Fatal(l, e, w.Len())
		}
	}
	if w.Set(0, 10_000) != api.OK || w.Set(math.Copysign(0, -1), 10_001) != api.OK || w.Len() != 1 {
		t.Error("0 and -0 are not the same key")
	}
}

// P10.1, P10.2, R1: a key of which nothing may be asked does not make a call panic: it is such a one, too.
func TestKeysThatCanNotBeAsked(t *testing.T) {
	w, _ := New[any](0, 2)
	bad := []any{[]int{1}, map[string]int{}, func() {}, struct{ x any }{[]int{}}, [1]any{[]byte("a")}}
	if w.Set("a", 5) != api.OK {
		t.Fatal("a plain key is refused")
	}
	for i, key := range bad {
		at := int64(10 * (i + 1))
		if e := w.Set(key, at); e != api.OK || w.Len() != 2 {
			t.Fatal(i, e, w.Len())
		}
		if e := w.Set(key, at); e != api.ErrFull {
			t.Fatal(i, e)
		}
		if got, is := w.At(key); got != 0 || is || w.Stop(key) != 0 || w.Stop(append(bad, key)...) != 0 {
			t.Fatal(i, got, is)
		}
		w.Set("a", at)
		l, e := w.Go(at)
		if e != api.OK || len(l) != 2 || l[0].At != at || l[1] != (Due[any]{"a", at}) || w.Len() != 0 {
			t.Fatal(i, l, e)
		}
		w.Set("a", at+1)
	}
}

// R5: what is told is new memory; wheels are each of their own.
func TestWheelsDoNotMeet(t *testing.T) {
	a, b := begin(t, 0, 4), begin(t, 0, 4)
	for _, w := range []*Wheel[string]{a, b} {
		set(t, w, Due[string]{"a", 5}, Due[string]{"b", 5}, Due[string]{"c", 6}, Due[string]{"d", 6})
	}
	a.Stop("d")
	first, _ := a.Go(5)
	set(t, a, Due[string]{"x", 6}, Due[string]{"y", 6})
	second, _ := a.Go(6)
	second[0].Key = "z"
	if !slices.Equal(first, []Due[string]{{"a", 5}, {"b", 5}}) {
		t.Errorf("what was told is %v now", first)
	}
	told(t, b, 5, Due[string]{"a", 5}, Due[string]{"b", 5})
	told(t, b, 6, Due[string]{"c", 6}, Due[string]{"d", 6})
}
