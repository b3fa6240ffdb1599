package seq

import (
	"math"
	"math/big"
	"testing"
)

const (
	half = 1 << 31
	last = 1<<32 - 1
	top  = math.MaxUint64
)

// starts are numbers from which ways are gone: some of them come around at once.
var starts = []uint32{0, 1, 5, 1000, half - 1, half, half + 1, last - 1, last}

// ways are those at which an answer may change, with what each promise asks there.
var ways = []struct {
	way  uint32
	less bool
	sub  int64 // of where the way ends and where it begins
}{
	{0, false, 0},
	{1, true, 1},
	{2, true, 2},
	{half - 2, true, half - 2},
	{half - 1, true, half - 1},
	{half, false, -half},
	{half + 1, false, -(half - 1)},
	{last - 1, false, -2},
	{last, false, -1},
}

// P1.1: Less holds of the ways from 1 to 2^31 - 1, wherever they begin.
func TestLess(t *testing.T) {
	for _, a := range starts {
		for _, w := range ways {
			if got := Less(a, a+w.way); got != w.less {
				t.Errorf("Less(%d, %d) = %t", a, a+w.way, got)
			}
		}
	}
}

// P1.1: Sub is the way, less 2^32 from 2^31 on.
func TestSub(t *testing.T) {
	for _, b := range starts {
		for _, w := range ways {
			if got := Sub(b+w.way, b); got != w.sub {
				t.Errorf("Sub(%d, %d) = %d, not %d", b+w.way, b, got, w.sub)
			}
		}
	}
}

// P1.1: Max is b only where a is less; half a round away it is the first one, whichever that is.
func TestMax(t *testing.T) {
	for _, a := range starts {
		for _, w := range ways {
			b, want := a+w.way, a
			if w.less {
				want = b
			}
			if got := Max(a, b); got != want {
				t.Errorf("Max(%d, %d) = %d, not %d", a, b, got, want)
			}
		}
	}
}

// P1.1: In holds of n numbers, from the first one on, also around 2^32; of none, if n is 0.
func TestIn(t *testing.T) {
	sizes := []uint32{0, 1, 2, 4, half - 1, half, half + 1, last}
	for _, from := range starts {
		for _, n := range sizes {
			if got := In(from, from, n); got != (n > 0) {
				t.Errorf("In(%d, %d, %d) = %t", from, from, n, got)
			}
			if n > 0 && !In(from+n-1, from, n) {
				t.Errorf("In(%d, %d, %d) = false", from+n-1, from, n)
			}
			if In(from+n, from, n) {
				t.Errorf("In(%d, %d, %d) = true", from+n, from, n)
			}
			if In(from-1, from, n) {
				t.Errorf("In(%d, %d, %d) = true", from-1, from, n)
			}
		}
	}
}

// The chapter's examples.
func TestExamples(t *testing.T) {
	if !Less(4294967295, 0) || Less(0, 2147483648) || Less(2147483648, 0) {
		t.Error("Less: the examples do not hold")
	}
	if Sub(1, 3) != -2 || Sub(2147483648, 0) != -2147483648 {
		t.Error("Sub: the examples do not hold")
	}
	if Lift(4294967290, 5) != 4294967301 || Lift(3, 4294967295) != 4294967295 {
		t.Error("Lift: the examples do not hold")
	}
}

// P1.2: the edges, each worked out by hand.
func TestLift(t *testing.T) {
	for _, x := range []struct {
		near uint64
		s    uint32
		want uint64
	}{
		{0, 0, 0},
		{5, 5, 5},
		{7<<32 + 100, 90, 7<<32 + 90},
		{7<<32 + 100, 110, 7<<32 + 110},
		{7<<32 + 100, last, 6<<32 + last},
		{7<<32 + last, 100, 8<<32 + 100},
		// Two that are as near: the greater one.
		{7 << 32, half, 7<<32 + half},
		{7<<32 + half, 0, 8 << 32},
		{7<<32 + half + 9, 9, 8<<32 + 9},
		{half, 0, 1 << 32},
		{half + 5, 5, 1<<32 + 5},
		// One less, or one more, than as near.
		{7<<32 + half - 1, 0, 7 << 32},
		{7<<32 + half + 1, 0, 8 << 32},
		{7<<32 + 1, half, 7<<32 + half},
		{7<<32 - 1, half, 6<<32 + half},
		{7 << 32, half + 1, 6<<32 + half + 1},
		{7 << 32, half - 1, 7<<32 + half - 1},
		// Next to 0 nothing lies below.
		{0, last, last},
		{0, half, half},
		{0, half + 1, half + 1},
		{3, last, last},
		{half - 2, last, last},
		{1 << 32, last, last},
		{1<<32 - 1, 0, 1 << 32},
		{1<<32 + half - 1, last, 1<<32 + last},
		{1<<32 + half - 2, last, last},
		// Next to 2^64 - 1 nothing lies above.
		{top, last, top},
		{top, 0, top - last},
		{top, 1, top - last + 1},
		{top, half - 1, top - half},
		{top, half - 2, top - half - 1},
		{top - half, last, top},
		{top - last, last, top - last - 1},
		{top - 1<<32, 0, top - last},
		{top - 1<<32 - last, half, top - 1<<32 - last + half},
	} {
		if got := Lift(x.near, x.s); got != x.want {
			t.Errorf("Lift(%d, %d) = %d, not %d", x.near, x.s, got, x.want)
		}
	}
}

// nearest looks for what Lift promises among all the rounds that may hold it, with numbers that have no end.
func nearest(near uint64, s uint32) uint64 {
	var best, least *big.Int
	at := new(big.Int).SetUint64(near)
	for round := int64(near>>32) - 2; round <= int64(near>>32)+2; round++ {
		x := new(big.Int).Lsh(big.NewInt(round), 32)
		x.Add(x, new(big.Int).SetUint64(uint64(s)))
		if x.Sign() < 0 || x.BitLen() > 64 {
			continue
		}
		far := new(big.Int).Sub(x, at)
		if far.Abs(far); least == nil || far.Cmp(least) <= 0 {
			best, least = x, far
		}
	}
	return best.Uint64()
}

// P1.2: Lift is what a search finds, for all that lies next to an edge.
func TestLiftIsNearest(t *testing.T) {
	rounds := []uint64{0, 1, 2, 77, 1<<31 - 1, 1 << 31, last - 1, last}
	var lows []uint32
	for _, x := range []uint32{0, half} {
		for d := -3; d <= 3; d++ {
			lows = append(lows, x+uint32(d), x+12345+uint32(d))
		}
	}
	for _, round := range rounds {
		for _, low := range lows {
			near := round<<32 + uint64(low)
			for _, s := range lows {
				if got, want := Lift(near, s), nearest(near, s); got != want {
					t.Errorf("Lift(%d, %d) = %d, not %d", near, s, got, want)
				}
			}
		}
	}
}

// P1.3: numbers that are less than 2^31 apart keep their order and their way, however far they are moved together.
func TestOrderIsKept(t *testing.T) {
	for _, apart := range []uint32{0, 1, 2, 1 << 16, half - 2, half - 1} {
		for _, from := range starts {
			for _, by := range starts {
				a, b := from+by, from+apart+by
				if got := Less(a, b); got != (apart > 0) {
					t.Errorf("Less(%d, %d) = %t", a, b, got)
				}
				if Less(b, a) {
					t.Errorf("Less(%d, %d) = true", b, a)
				}
				if Sub(b, a) != int64(apart) || Sub(a, b) != -int64(apart) {
					t.Errorf("Sub of %d and %d: %d, %d", a, b, Sub(b, a), Sub(a, b))
				}
				if Max(a, b) != b || Max(b, a) != b {
					t.Errorf("Max of %d and %d: %d, %d", a, b, Max(a, b), Max(b, a))
				}
			}
		}
	}
}

// P1.3: a place is found again from its 32 bits by any number that is less than 2^31 away.
func TestPlaceIsFoundAgain(t *testing.T) {
	places := []uint64{0, 1, half - 1, half, last, 1 << 32, 1<<32 + half, 9<<32 + 17, 1 << 63, top - 1<<32, top - half, top - 1, top}
	for _, place := range places {
		for _, off := range []uint64{0, 1, 1000, half - 2, half - 1} {
			if place >= off && Lift(place-off, uint32(place)) != place {
				t.Errorf("Lift(%d, %d) = %d", place-off, uint32(place), Lift(place-off, uint32(place)))
			}
			if place <= top-off && Lift(place+off, uint32(place)) != place {
				t.Errorf("Lift(%d, %d) = %d", place+off, uint32(place), Lift(place+off, uint32(place)))
			}
		}
	}
}

// All numbers of 8 bits: what compares numbers of any size goes around at their own one.
func TestAheadAtEightBits(t *testing.T) {
	for a := range 256 {
		for way := range 256 {
			if got := ahead(uint8(a), uint8(a+way)); got != (way >= 1 && way <= 127) {
				t.Errorf("ahead(%d, %d) = %t", a, uint8(a+way), got)
			}
		}
	}
}
