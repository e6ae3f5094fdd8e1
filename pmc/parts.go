package pmc

import (
	"iter"

	"yearbook/api"
	"yearbook/span"
)

// ofBands tells what is asked of bands, if they may be.
func ofBands[T any](l []api.Band, tell func() (T, api.Errno)) (T, api.Errno) {
	if e := Check(l); e != api.OK {
		var none T
		return none, e
	}
	return tell()
}

// common is all constants that go through the bands that came so far.
type common struct{ api.Span }

// take narrows them to those that go through one band more; if that leaves none, they stay as they were, and the band does not come to the others.
func (c *common) take(b api.Band) bool {
	lo, hi := max(c.Lo, b.Lo), min(c.Hi, b.Hi)
	if lo > hi {
		return false
	}
	c.Lo, c.Hi = lo, hi
	return true
}

// parts cuts bands that may be: from its first band on each part is as long as it can be. With it come the constants that go through it. Each part takes its first band, for that lies in what may be told: so the bands come to an end.
func parts(l []api.Band) iter.Seq2[[]api.Band, api.Span] {
	return func(yield func(part []api.Band, through api.Span) bool) {
		for from := 0; from < len(l); {
			c := common{mayBeTold()}
			to := from + taken(l[from:], c.take)
			if !yield(l[from:to:to], c.Span) {
				return
			}
			from = to
		}
	}
}

// first tells the first of the parts alone; of bands that may be there is one.
func first(l []api.Band) ([]api.Band, api.Span) {
	for part, through := range parts(l) {
		return part, through
	}
	return nil, api.Span{}
}

// taken tells how many bands are taken ahead of the first one that is not.
func taken(l []api.Band, take func(b api.Band) bool) int {
	n := 0
taking:
	for _, b := range l {
		switch {
		case take(b):
			n++
		default:
			break taking
		}
	}
	return n
}

func isBand(b api.Band) bool {
	return 0 <= b.T && b.T <= api.MaxTime && span.Within(api.Span{Lo: b.Lo, Hi: b.Hi}, mayBeTold())
}

func mayBeTold() api.Span {
	return api.Span{Lo: -api.MaxBack, Hi: api.MaxBack}
}
