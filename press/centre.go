package press

import (
	"math/bits"

	"deadwax/api"
)

// Centre returns the centre of three spots. (P8.7)
func Centre(a, b, c api.Spot) (int64, int64, int64, api.Errno) {
	if e := checkSpots(a, b, c); e != api.OK {
		return 0, 0, 0, e
	}
	x, y, d := centre(a, b, c)
	if d == 0 {
		return 0, 0, 0, api.ErrZero
	}
	return x, y, d, api.OK
}

// centre returns the centre of three spots as a fraction, whose divisor is 0 if there is none.
func centre(l ...api.Spot) (x, y, d int64) {
	for i, s := range l {
		one, other := l[(i+1)%len(l)], l[(i+2)%len(l)]
		across, up := one.X-other.X, one.Y-other.Y
		square := s.X*s.X + s.Y*s.Y // with the limit of the coordinates, all sums stay below 2^58
		x += square * up
		y -= square * across
		d += 2 * s.X * up
	}
	if d < 0 {
		return -x, -y, -d
	}
	return x, y, d
}

// Centred reports whether the centre of three spots is near the hole. (P8.7)
func Centred(a, b, c api.Spot, limit int64) (bool, api.Errno) {
	x, y, d, e := Centre(a, b, c)
	if e != api.OK {
		return false, e
	}
	if !between(0, limit, api.MaxSpot) {
		return false, api.ErrArg
	}
	return !squares(limit * d).less(squares(x, y)), api.OK
}

// wide is a number of 128 bits.
type wide struct{ high, low uint64 }

func (w wide) less(v wide) bool {
	return w.high < v.high || w.high == v.high && w.low < v.low
}

// squares returns the sum of the squares of numbers whose amounts are below 2^62.
func squares(l ...int64) wide {
	var sum wide
	for _, x := range l {
		amount := uint64(max(x, -x))
		high, low := bits.Mul64(amount, amount)
		var carry uint64
		sum.low, carry = bits.Add64(sum.low, low, 0)
		sum.high += high + carry
	}
	return sum
}
