package clock

import (
	"math"
	"math/big"
	"slices"
	"testing"

	"transom/api"
)

const (
	last     = 1 << 44 // the last time, as the chapter's limit stands in package api
	lowest   = math.MinInt64
	greatest = math.MaxInt64
)

// edges is numbers at which an answer may change, and some between them; the least and the greatest of all among them.
func edges() []int64 {
	return []int64{
		lowest, lowest + 1, -last - 1, -last, -1 << 32, -2, -1, 0, 1, 2, 5, 8, 1<<31 - 1, 1 << 31, 1<<32 - 1, 1 << 32, 1<<32 + 1,
		last / 2, last/2 + 1, last - 8, last - 2, last - 1, last, last + 1, last + 2, 2 * last,
		greatest - last - 1, greatest - last, greatest - last + 1, greatest - 1, greatest,
	}
}

// times is those of edges that are times.
func times() []int64 {
	return slices.DeleteFunc(edges(), func(t int64) bool { return t < 0 || t > last })
}

// sum is what Add answers, as the chapter tells it: with a sum that is never too great for its kind.
func sum(t, by int64) (int64, api.Errno) {
	s := new(big.Int).Add(big.NewInt(t), big.NewInt(by))
	switch {
	case t < 0 || t > last || by < 0:
		return 0, api.ErrArg
	case s.Cmp(big.NewInt(last)) > 0:
		return 0, api.ErrOver
	}
	return s.Int64(), api.OK
}

// begin is a clock that tells at.
func begin(t *testing.T, at int64) *Clock {
	t.Helper()
	c, e := New(at)
	if c == nil || e != api.OK {
		t.Fatalf("New(%d) = %v, %v", at, c, e)
	}
	return c
}

// P9.1: a time is from 0 to MaxTick, both of them.
func TestMay(t *testing.T) {
	for _, x := range []struct {
		t    int64
		want bool
	}{
		{lowest, false}, {-last, false}, {-1, false}, {0, true}, {1, true}, {1 << 31, true}, {1 << 32, true},
		{last - 1, true}, {last, true}, {last + 1, false}, {2 * last, false}, {greatest, false},
	} {
		if May(x.t) != x.want {
			t.Errorf("May(%d) is not %t", x.t, x.want)
		}
	}
	if !May(api.MaxTick) || May(api.MaxTick+1) {
		t.Error("the last time is not MaxTick")
	}
}

// P9.1: the sum, up to MaxTick; ErrArg counts ahead of ErrOver; beside an error there is no time.
func TestAdd(t *testing.T) {
	for _, x := range []struct {
		t, by, want int64
		e           api.Errno
	}{
		{0, 0, 0, api.OK},
		{5, 3, 8, api.OK},
		{5, 0, 5, api.OK},
		{last, 0, last, api.OK},
		{0, last, last, api.OK},
		{last - 1, 1, last, api.OK},
		{last / 2, last / 2, last, api.OK},
		{last, 1, 0, api.ErrOver},
		{0, last + 1, 0, api.ErrOver},
		{last - 1, 2, 0, api.ErrOver},
		{last, last, 0, api.ErrOver},
		{1, greatest, 0, api.ErrOver}, // the sum of these goes around
		{last, greatest, 0, api.ErrOver},
		{-1, 5, 0, api.ErrArg},
		{-1, 1, 0, api.ErrArg}, // though their sum is a time
		{5, -1, 0, api.ErrArg},
		{5, -5, 0, api.ErrArg},
		{last, -1, 0, api.ErrArg},
		{last + 1, -1, 0, api.ErrArg},
		{last + 1, 0, 0, api.ErrArg},
		{last + 1, 1, 0, api.ErrArg}, // ahead of ErrOver
		{-1, greatest, 0, api.ErrArg},
		{greatest, greatest, 0, api.ErrArg},
		{lowest, lowest, 0, api.ErrArg},
		{lowest, greatest, 0, api.ErrArg},
		{greatest, lowest, 0, api.ErrArg},
	} {
		if got, e := Add(x.t, x.by); got != x.want || e != x.e {
			t.Errorf("Add(%d, %d) = %d, %v, not %d, %v", x.t, x.by, got, e, x.want, x.e)
		}
	}
}

// P9.1: of all edges, as the chapter tells it.
func TestAddOfEdges(t *testing.T) {
	for _, at := range edges() {
		for _, by := range edges() {
			want, wrong := sum(at, by)
			if got, e := Add(at, by); got != want || e != wrong {
				t.Errorf("Add(%d, %d) = %d, %v, not %d, %v", at, by, got, e, want, wrong)
			}
		}
	}
}

// P9.1: what is no time does not count, wherever it stands; without a time it is MaxTick.
func TestLeast(t *testing.T) {
	for _, x := range []struct {
		l    []int64
		want int64
	}{
		{nil, last},
		{[]int64{}, last},
		{[]int64{7}, 7},
		{[]int64{0}, 0},
		{[]int64{last}, last},
		{[]int64{-1}, last},
		{[]int64{last + 1}, last},
		{[]int64{lowest, -1, last + 1, greatest}, last},
		{[]int64{-5, 9, 7}, 7},
		{[]int64{7, 9, -5}, 7},
		{[]int64{9, -5, 7}, 7},
		{[]int64{9, 7, 9, 8}, 7},
		{[]int64{7, 7}, 7},
		{[]int64{last + 1, last, last - 1}, last - 1},
		{[]int64{greatest, 1 << 32, 1 << 31, lowest}, 1 << 31},
		{[]int64{3, 2, 1, 0, -1}, 0},
	} {
		if got := Least(x.l...); got != x.want {
			t.Errorf("Least(%v) = %d, not %d", x.l, got, x.want)
		}
	}
	if Least() != last || Least(9, 7) != 7 {
		t.Error("Least of numbers that are handed in one by one")
	}
}

// P9.1: of all rows of three edges, as the chapter tells it.
func TestLeastOfEdges(t *testing.T) {
	for _, a := range edges() {
		for _, b := range edges() {
			for _, c := range edges() {
				l := []int64{a, b, c}
				want := int64(last)
				for _, x := range l {
					if x >= 0 && x < want {
						want = x
					}
				}
				if got := Least(l...); got != want {
					t.Fatalf("Least(%v) = %d, not %d", l, got, want)
				}
			}
		}
	}
}

// P9.1, R5: a long list counts to its end, and stays as it was.
func TestLeastOfLongList(t *testing.T) {
	l := slices.Repeat([]int64{last, -3, 17, greatest}, 1<<14)
	l = append(l, 16)
	was := slices.Clone(l)
	if got := Least(l...); got != 16 {
		t.Errorf("Least of %d numbers = %d", len(l), got)
	}
	if !slices.Equal(l, was) {
		t.Error("the list is another one")
	}
}

// P9.2: a clock tells the time at which it begins; there is none of what is no time.
func TestNew(t *testing.T) {
	for _, at := range edges() {
		c, e := New(at)
		if at < 0 || at > last {
			if c != nil || e != api.ErrArg {
				t.Errorf("New(%d) = %v, %v", at, c, e)
			}
			continue
		}
		if c == nil || e != api.OK || c.Now() != at {
			t.Errorf("New(%d) = %v, %v", at, c, e)
		}
	}
}

// P9.2: the chapter's examples, and MaxTick, up to which a clock goes, and no further.
func TestGo(t *testing.T) {
	c := begin(t, 5)
	for _, x := range []struct {
		by, now int64
		e       api.Errno
	}{
		{3, 8, api.OK},
		{-1, 8, api.ErrArg},
		{0, 8, api.OK},
		{lowest, 8, api.ErrArg},
		{last, 8, api.ErrOver},
		{greatest, 8, api.ErrOver},
		{last - 7, 8, api.ErrOver},
		{1, 9, api.OK},
		{last - 9, last, api.OK},
		{0, last, api.OK},
		{1, last, api.ErrOver},
		{greatest, last, api.ErrOver},
		{-1, last, api.ErrArg},
		{-last, last, api.ErrArg},
	} {
		if e := c.Go(x.by); e != x.e || c.Now() != x.now {
			t.Errorf("Go(%d): %v, and it is %d, not %v and %d", x.by, e, c.Now(), x.e, x.now)
		}
	}
}

// P9.2: from each edge by each edge: Add's answer, or its error, and then the time stays (R2).
func TestGoIsAdd(t *testing.T) {
	for _, at := range times() {
		for _, by := range edges() {
			c := begin(t, at)
			want, wrong := sum(at, by)
			if wrong != api.OK {
				want = at
			}
			if e := c.Go(by); e != wrong || c.Now() != want {
				t.Errorf("from %d, Go(%d): %v, and it is %d, not %v and %d", at, by, e, c.Now(), wrong, want)
			}
		}
	}
}

// P9.2: the way up to at, whatever number that is; 0 at Now, and below.
func TestLeft(t *testing.T) {
	for _, x := range []struct{ now, at, want int64 }{
		{8, 10, 2}, {8, 9, 1}, {8, 8, 0}, {8, 7, 0}, {8, 3, 0}, {8, 0, 0}, {8, -1, 0},
		{0, last, last}, {last, last, 0}, {last, last - 1, 0}, {last, last + 1, 1},
		{0, greatest, greatest}, {last, greatest, greatest - last},
		{0, lowest, 0}, {1, lowest, 0}, {last, lowest, 0}, // the way from these goes around
	} {
		c := begin(t, x.now)
		if got := c.Left(x.at); got != x.want || c.Now() != x.now {
			t.Errorf("at %d, Left(%d) = %d, not %d; then it is %d", x.now, x.at, got, x.want, c.Now())
		}
	}
}

// P9.2: of all edges; Left becomes less by as much as the time goes on.
func TestLeftGoesDown(t *testing.T) {
	for _, at := range edges() {
		for _, from := range times() {
			c := begin(t, from)
			for _, by := range []int64{0, 1, 2, 5} {
				c.Go(by)
				want := int64(0)
				if at > c.Now() {
					want = at - c.Now()
				}
				if got := c.Left(at); got != want {
					t.Errorf("at %d, Left(%d) = %d, not %d", c.Now(), at, got, want)
				}
			}
		}
	}
}

// P9.2: gone on by what is left, it is the time up to which it was.
func TestGoByWhatIsLeft(t *testing.T) {
	for _, from := range times() {
		for _, to := range times() {
			c := begin(t, from)
			if e := c.Go(c.Left(to)); e != api.OK || c.Now() != max(from, to) || c.Left(to) != 0 {
				t.Errorf("from %d to %d: %v, and it is %d", from, to, e, c.Now())
			}
		}
	}
}

// P9.2, R3: nil, and a clock that New did not make, tell nothing and do nothing: ErrNil ahead of Add's errors.
func TestNoClock(t *testing.T) {
	for name, c := range map[string]*Clock{"nil": nil, "another one": {}} {
		for _, by := range edges() {
			if e := c.Go(by); e != api.ErrNil {
				t.Errorf("%s: Go(%d) = %v", name, by, e)
			}
			if c.Now() != 0 || c.Left(by) != 0 {
				t.Errorf("%s: it is %d, Left(%d) = %d", name, c.Now(), by, c.Left(by))
			}
		}
	}
}

// P9.2, R5, R6: clocks are each of their own, also those that begin at one time.
func TestClocksDoNotMeet(t *testing.T) {
	a, b, c := begin(t, 5), begin(t, 5), begin(t, 9)
	if a == b {
		t.Fatal("two clocks are one")
	}
	a.Go(3)
	if _, e := New(-1); e != api.ErrArg {
		t.Error(e)
	}
	if a.Now() != 8 || b.Now() != 5 || c.Now() != 9 {
		t.Errorf("%d, %d, %d", a.Now(), b.Now(), c.Now())
	}
	b.Go(last - 5)
	if a.Now() != 8 || b.Now() != last || c.Now() != 9 {
		t.Errorf("%d, %d, %d", a.Now(), b.Now(), c.Now())
	}
}

// P9.3: whatever a clock is told, in whatever order, it never goes back.
func TestNeverGoesBack(t *testing.T) {
	for _, at := range times() {
		c := begin(t, at)
		for _, first := range edges() {
			for _, by := range []int64{first, -first, 1, first % 1000} {
				was := c.Now()
				e := c.Go(by)
				if c.Now() < was || e != api.OK && c.Now() != was || !May(c.Now()) {
					t.Fatalf("from %d, Go(%d): %v, and it is %d", was, by, e, c.Now())
				}
			}
		}
	}
}

// P9.3: in two parts, it is the same time as at once, the same is left, and it ends with the same error.
func TestInParts(t *testing.T) {
	for _, at := range times() {
		for _, one := range times() {
			for _, two := range times() {
				a, b := begin(t, at), begin(t, at)
				whole := a.Go(one + two)
				parts := b.Go(one)
				if parts == api.OK {
					parts = b.Go(two)
				}
				if whole != parts {
					t.Fatalf("from %d by %d and %d: %v at once, %v in parts", at, one, two, whole, parts)
				}
				if whole == api.OK && (a.Now() != b.Now() || a.Left(last) != b.Left(last)) {
					t.Fatalf("from %d by %d and %d: %d at once, %d in parts", at, one, two, a.Now(), b.Now())
				}
			}
		}
	}
}

// P9.3: in a thousand parts as well, of no ticks among them, and with some that are refused.
func TestInManyParts(t *testing.T) {
	a, b := begin(t, 7), begin(t, 7)
	gone := int64(0)
	for i := range int64(1000) {
		by := i * i * i % 97 * (last / 100_000)
		if e := b.Go(by); e != api.OK {
			t.Fatal(by, e)
		}
		gone += by
		if b.Go(-by-1) != api.ErrArg || b.Go(last) != api.ErrOver {
			t.Fatal("it went where it can't")
		}
	}
	if e := a.Go(gone); e != api.OK || a.Now() != b.Now() || a.Now() != 7+gone {
		t.Errorf("%v, %d at once, %d in parts", e, a.Now(), b.Now())
	}
}
