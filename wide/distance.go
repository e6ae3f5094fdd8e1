package wide

import (
	"math/bits"

	"yearbook/api"
)

// distance is how far a number is from 0. It has no sign, so that 2^127, which the least number is away, has room.
type distance struct{ hi, lo uint64 }

func farFromZero(a api.Wide) distance {
	if !below(a) {
		return distance{hi: uint64(a.Hi), lo: a.Lo}
	}
	return negative(distance{hi: uint64(a.Hi), lo: a.Lo})
}

// negative goes by the bits alone, with wrap-round.
func negative(d distance) distance {
	lo, borrow := bits.Sub64(0, d.lo, 0)
	hi, _ := bits.Sub64(0, d.hi, borrow)
	return distance{hi: hi, lo: lo}
}

// signed tells the number that is so far from 0, on which side, and whether there is one.
func (d distance) signed(isBelow bool) (api.Wide, bool) {
	least := distance{hi: 1 << 63}
	fits := d.hi < least.hi || isBelow && d == least
	if isBelow {
		d = negative(d)
	}
	return api.Wide{Hi: int64(d.hi), Lo: d.lo}, fits
}

// times tells the product's lower 128 bits, and those above them.
func (d distance) times(n uint64) (distance, uint64) {
	carry, lo := bits.Mul64(d.lo, n)
	top, middle := bits.Mul64(d.hi, n)
	hi, more := bits.Add64(middle, carry, 0)
	return distance{hi: hi, lo: lo}, top + more
}

// over is for m from 1 on. What the upper half leaves is below m, as Div64 needs it.
func (d distance) over(m uint64) (distance, uint64) {
	hi, left := bits.Div64(0, d.hi, m)
	lo, rest := bits.Div64(left, d.lo, m)
	return distance{hi: hi, lo: lo}, rest
}
