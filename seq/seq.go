// Package seq has numbers that go around at 2 to the power of 32.
package seq

// around is where a number of 32 bits begins anew.
const around = 1 << 32

// unsigned is the kinds of numbers whose differences go around at their own size.
type unsigned interface {
	~uint8 | ~uint16 | ~uint32 | ~uint64
}

// ahead tells whether b is met sooner by going up from a than by going down; a number half a round away is not.
func ahead[N unsigned](a, b N) bool {
	half := ^(^N(0) >> 1)
	way := b - a
	return way > 0 && way < half
}

// apart tells how far a and b are from each other without going around.
func apart[N unsigned](a, b N) N {
	return max(a, b) - min(a, b)
}

// Less tells whether the way from a to b is from 1 to 2^31 - 1.
func Less(a, b uint32) bool {
	return ahead(a, b)
}

// Sub is the way from b to a, counted downwards if it is 2^31 or more.
func Sub(a, b uint32) int64 {
	return int64(int32(a - b))
}

// In tells whether x is one of the n numbers that begin with from.
func In(x, from, n uint32) bool {
	return x-from < n
}

// Max is the later one of two numbers, a if neither is.
func Max(a, b uint32) uint32 {
	if Less(a, b) {
		return b
	}
	return a
}

// Lift is the number nearest to near whose lower 32 bits are s, the greater one of two that are as near.
func Lift(near uint64, s uint32) uint64 {
	best := near - near%around + uint64(s)
	// Next to 0 and to 2^64 - 1 one of these goes around: it lands so far off that it is never taken.
	if low := best - around; apart(low, near) < apart(best, near) {
		return low
	}
	if high := best + around; apart(high, near) <= apart(best, near) {
		return high
	}
	return best
}
