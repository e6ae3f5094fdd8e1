package line

import (
	"yearbook/api"
	"yearbook/span"
	"yearbook/wide"
)

// asked is a line of which something is asked. But for check, it is one that may be.
type asked struct{ api.Line }

func along(s api.Slope, a, r int64) api.Line {
	return api.Line{A: a, R: r, N: s.N, D: s.D}
}

func (l asked) check() api.Errno {
	s := api.Slope{N: l.N, D: l.D}
	if checkSlopes(s) != api.OK || lowest(s) != s {
		return api.ErrLine
	}
	if !isBack(l.A) || l.R < 0 || l.R >= l.D {
		return api.ErrLine
	}
	return api.OK
}

func (l asked) at(dt int64) (int64, api.Errno) {
	if !isTime(dt) {
		return 0, api.ErrArg
	}
	value, _, e := over(l.timesD(dt), l.D)
	return value, e
}

// timesD tells D times the exact value at a time, a whole number, that is never beyond 2^112: so the error is left out.
func (l asked) timesD(dt int64) api.Wide {
	exact, _ := wide.Total(wide.Mul(l.A, l.D), wide.Mul(l.N, dt), wide.Of(l.R))
	return exact
}

// over tells c over d, rounded down, and what is left, if that may be told in a value's place.
func over(c api.Wide, d int64) (int64, int64, api.Errno) {
	whole, rest, _ := wide.Div(c, d)
	value, e := wide.Int(whole)
	if e != api.OK || !isBack(value) {
		return 0, 0, api.ErrOver
	}
	return value, rest, api.OK
}

// between is for values that only rise, or only fall: then both ends are the least and the greatest one.
func between(times [2]int64, at func(dt int64) (int64, api.Errno)) (api.Span, api.Errno) {
	var ends [2]api.Span
	for i, dt := range times {
		value, e := at(dt)
		if e != api.OK {
			return api.Span{}, e
		}
		ends[i] = span.Point(value)
	}
	return span.Join(ends[:]...)
}
