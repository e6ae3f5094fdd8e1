package span

import (
	"math/bits"

	"yearbook/api"
)

// The places of both ends.
const (
	low = iota
	high
)

// ends is a span's ends, or what is on the way to them.
type ends [2]int64

func endsOf(s api.Span) ends {
	return ends{low: s.Lo, high: s.Hi}
}

func (a ends) span() api.Span {
	return api.Span{Lo: a[low], Hi: a[high]}
}

func (a ends) join(b ends) ends {
	return ends{min(a[low], b[low]), max(a[high], b[high])}
}

// meet tells ends of which the lower one is above the higher one, where there is nothing in common.
func (a ends) meet(b ends) ends {
	return ends{max(a[low], b[low]), min(a[high], b[high])}
}

func (a ends) least(b ends) ends {
	return ends{min(a[low], b[low]), min(a[high], b[high])}
}

func (a ends) most(b ends) ends {
	return ends{max(a[low], b[low]), max(a[high], b[high])}
}

// sums is what the ends of spans come to, each by itself.
type sums [2]grown

func (a sums) plus(b ends) sums {
	return sums{a[low].plus(b[low]), a[high].plus(b[high])}
}

// grown is an end that may have left its numbers: n, and 2^64 as often as rounds says. It has room if there are no rounds, and only then.
type grown struct{ n, rounds int64 }

// plus counts it when n goes round, so that a sum that comes back is told.
func (g grown) plus(n int64) grown {
	sum := grown{g.n + n, g.rounds}
	if n > 0 && sum.n < g.n {
		sum.rounds++
	}
	if n < 0 && sum.n > g.n {
		sum.rounds--
	}
	return sum
}

// times takes the bits as those of numbers without a sign. One that is below 0 is 2^64 too great then, and the product is too great by as many rounds as the other number says.
func times(a, b int64) grown {
	hi, lo := bits.Mul64(uint64(a), uint64(b))
	product := grown{int64(lo), int64(hi)}
	if a < 0 {
		product.rounds -= b
	}
	if b < 0 {
		product.rounds -= a
	}
	if product.n < 0 {
		// Its upper bit stood for 2^63, and now takes as much away.
		product.rounds++
	}
	return product
}

// between tells the span from one end to the other, as grow tells them by their places, up to the first one that has no room.
func between(grow func(end int) grown) (api.Span, api.Errno) {
	var both ends
	wrong := api.OK
growing:
	for end := range both {
		switch g := grow(end); g.rounds {
		case 0:
			both[end] = g.n
		default:
			both, wrong = ends{}, api.ErrOver
			break growing
		}
	}
	return both.span(), wrong
}
