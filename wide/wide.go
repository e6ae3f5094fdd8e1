// Package wide is layer 1, whole numbers of 128 bits: see ../shared/doc/01-wide.md.
package wide

import (
	"math/bits"

	"yearbook/api"
)

// Of: P1.1.
func Of(n int64) api.Wide {
	return api.Wide{Hi: n >> 63, Lo: uint64(n)}
}

// Add: P1.1.
func Add(a, b api.Wide) (api.Wide, api.Errno) {
	return Total(a, b)
}

// Sub: P1.1. It does not add the negative of b, for which there may be no room where there is room for the answer.
func Sub(a, b api.Wide) (api.Wide, api.Errno) {
	lo, borrow := bits.Sub64(a.Lo, b.Lo, 0)
	hi := a.Hi - b.Hi - int64(borrow)
	fits := below(a) == below(b) || (hi < 0) == below(a)
	return ifRoom(api.Wide{Hi: hi, Lo: lo}, fits)
}

// Neg: P1.1.
func Neg(a api.Wide) (api.Wide, api.Errno) {
	return Sub(Of(0), a)
}

// Mul: P1.2. The error is left out, for two numbers of 64 bits come to 2^126 at most.
func Mul(a, b int64) api.Wide {
	product, _ := Scale(Of(a), b)
	return product
}

// Scale: P1.2.
func Scale(a api.Wide, n int64) (api.Wide, api.Errno) {
	far, over := farFromZero(a).times(farFromZero(Of(n)).lo)
	product, fits := far.signed(below(a) != (n < 0))
	return ifRoom(product, fits && over == 0)
}

// Compare: P1.3.
func Compare(a, b api.Wide) int {
	if a == b {
		return 0
	}
	if a.Hi < b.Hi || a.Hi == b.Hi && a.Lo < b.Lo {
		return -1
	}
	return 1
}

// Div: P1.3.
func Div(a api.Wide, m int64) (api.Wide, int64, api.Errno) {
	if m < 1 {
		return api.Wide{}, 0, api.ErrArg
	}
	if below(a) {
		// If the mirrored number is q times m and r, then a is (-1 less q) times m, and m less 1 less r: so it is rounded down.
		whole, rest := divide(mirror(a), m)
		return mirror(whole), m - 1 - rest, api.OK
	}
	whole, rest := divide(a, m)
	return whole, rest, api.OK
}

// Int: P1.3.
func Int(a api.Wide) (int64, api.Errno) {
	n := int64(a.Lo)
	return ifRoom(n, Of(n) == a)
}

// growing is a sum on its way; fits says that it never left its numbers.
type growing struct {
	api.Wide
	fits bool
}

// Total: P1.4.
func Total(l ...api.Wide) (api.Wide, api.Errno) {
	sum := growing{fits: true}
	grow := func(next api.Wide) {
		lo, carry := bits.Add64(sum.Lo, next.Lo, 0)
		hi := sum.Hi + next.Hi + int64(carry)
		// Only numbers on one side of 0 can leave, and then they come out on the other one.
		sum.fits = below(sum.Wide) != below(next) || (hi < 0) == below(next)
		sum.Hi, sum.Lo = hi, lo
	}
adding:
	for _, next := range l {
		grow(next)
		if !sum.fits {
			// A later number could bring the sum back, but it has left already.
			break adding
		}
	}
	return ifRoom(sum.Wide, sum.fits)
}

// ifRoom tells v where it fits; where not, no part of it is told beside the error.
func ifRoom[T any](v T, fits bool) (T, api.Errno) {
	if !fits {
		var none T
		return none, api.ErrOver
	}
	return v, api.OK
}

func below(a api.Wide) bool {
	return a.Hi < 0
}

// mirror tells -1 less a, which always has room, unlike 0 less a.
func mirror(a api.Wide) api.Wide {
	return api.Wide{Hi: ^a.Hi, Lo: ^a.Lo}
}

// divide is for a from 0 on, and m from 1 on.
func divide(a api.Wide, m int64) (api.Wide, int64) {
	far, rest := farFromZero(a).over(uint64(m))
	whole, _ := far.signed(false)
	return whole, int64(rest)
}
