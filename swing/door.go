package swing

import (
	"iter"

	"yearbook/api"
	"yearbook/line"
	"yearbook/pmc"
)

// The places of a door's ends.
const (
	low = iota
	high
)

// hinge is where lines through bands begin: the first band's time, and its middle.
type hinge struct{ t, v int64 }

// hingeOf goes by pmc: what fits one band alone is its middle.
func hingeOf(l []api.Band) hinge {
	middle, _ := pmc.Fit(l[:1:1])
	return hinge{t: l[0].T, v: middle}
}

// slope leads from the hinge to a value of a later band. Between two values that may be told there is always a slope: so the error is left out.
func (h hinge) slope(t, v int64) api.Slope {
	s, _ := line.Lowest(api.Slope{N: v - h.v, D: t - h.t})
	return s
}

// door has slopes in lowest terms at its ends: two that say the same are the same.
type door struct {
	hinge
	ends [2]api.Slope
}

// opened is the door ahead of all bands but the first one: no slope between values that may be told is beyond it.
func opened(l []api.Band) door {
	return door{hingeOf(l), [2]api.Slope{{N: -api.MaxSlope, D: 1}, {N: api.MaxSlope, D: 1}}}
}

// take shuts the door as far as a band asks, and tells what it is then. The hinge's own band asks nothing.
func (d *door) take(b api.Band) door {
	if b.T > d.t {
		from, to := d.slope(b.T, b.Lo), d.slope(b.T, b.Hi)
		d.ends[low] = rising(d.ends[low], from)[high]
		d.ends[high] = rising(d.ends[high], to)[low]
	}
	return *d
}

func (d door) isShut() bool {
	return rising(d.ends[low], d.ends[high])[low] != d.ends[low]
}

// fitted is asked of a door that is not shut; then neither call can go wrong.
func (d door) fitted() api.Line {
	flattest, _ := line.Nearest(d.ends[low], d.ends[high])
	fit, _ := line.Of(d.v, flattest)
	return fit
}

// rising tells both, the lesser one first.
func rising(a, b api.Slope) [2]api.Slope {
	if order, _ := line.Compare(a, b); order > 0 {
		return [2]api.Slope{b, a}
	}
	return [2]api.Slope{a, b}
}

// doorOf takes all bands, be the door shut or not.
func doorOf(l []api.Band) door {
	d := opened(l)
	for _, b := range l {
		d.take(b)
	}
	return d
}

// doors goes over bands: with each it tells how many there are up to it, and what the door is that took it.
func doors(l []api.Band, take func(b api.Band) door) iter.Seq2[int, door] {
	return func(yield func(n int, d door) bool) {
		for i, b := range l {
			if !yield(i+1, take(b)) {
				return
			}
		}
	}
}

// first tells the first part of bands, and its door, the last one that is not shut. The hinge's own band never shuts it: so no part is without a band.
func first(l []api.Band) (part []api.Band, open door) {
	d := opened(l)
shutting:
	for n, now := range doors(l, d.take) {
		switch {
		case now.isShut():
			break shutting
		default:
			part, open = l[:n:n], now
		}
	}
	return part, open
}

// ofParts tells something of each part of bands that may be, in their order.
func ofParts[T any](l []api.Band, tell func(part []api.Band, open door) T) ([]T, api.Errno) {
	return ofBands(l, func() ([]T, api.Errno) {
		var told []T
		for left := l; len(left) > 0; {
			part, open := first(left)
			told = append(told, tell(part, open))
			left = left[len(part):]
		}
		return told, api.OK
	})
}

// ofBands tells what is asked of bands, if they may be.
func ofBands[T any](l []api.Band, tell func() (T, api.Errno)) (T, api.Errno) {
	if e := pmc.Check(l); e != api.OK {
		var none T
		return none, e
	}
	return tell()
}
