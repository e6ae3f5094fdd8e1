package bandrows

import (
	"iter"
	"math"

	"yearbook/api"
	"yearbook/line"
)

// Lines tells small lines, and some that are none.
func Lines() []api.Line {
	var l []api.Line
	for a := int64(-2); a <= 2; a++ {
		for d := int64(0); d <= 3; d++ {
			for r := int64(-1); r <= d; r++ {
				for n := int64(-4); n <= 4; n++ {
					l = append(l, api.Line{A: a, R: r, N: n, D: d})
				}
			}
		}
	}
	return l
}

// Try is a line, be it none, and a row of bands, and whether it goes through them.
type Try struct {
	Line    api.Line
	Bands   []api.Band
	Through bool
}

// Tries tells each of Lines with each row of Few, and then lines that just go through bands, that just do not, and that may not be, at the ends of times and values.
func Tries() iter.Seq[Try] {
	return func(yield func(x Try) bool) {
		rows := Few()
		for _, x := range Lines() {
			isLine := line.Check(x) == api.OK
			for _, l := range rows {
				if !yield(Try{x, l, isLine && goes(x, l)}) {
					return
				}
			}
		}
		for _, x := range edges() {
			if !yield(x) {
				return
			}
		}
	}
}

// goes is for small numbers: all of them are taken D times, so that nothing is rounded.
func goes(x api.Line, l []api.Band) bool {
	for _, b := range l {
		exact := x.A*x.D + x.N*(b.T-l[0].T) + x.R
		if exact < b.Lo*x.D || exact > b.Hi*x.D {
			return false
		}
	}
	return true
}

func edges() []Try {
	const m, end = int64(api.MaxBack), int64(api.MaxTime)
	return []Try{
		{api.Line{A: 5, D: 1}, Of(0, 5, 5), true},
		{api.Line{A: 5, D: 1}, Of(api.MaxTime, 5, 5), true},
		{api.Line{A: 5, R: 1, N: 1, D: 2}, Of(0, 5, 5), false},
		{api.Line{A: 5, R: 1, N: 1, D: 2}, Of(0, 5, 6, 1, 6, 6), true},
		{api.Line{A: 5, N: 1, D: 2}, Of(10, 5, 5, 12, 6, 6), true},
		{api.Line{A: 5, N: 1, D: 2}, Of(10, 5, 5, 11, 5, 5), false},
		{api.Line{A: 5, N: 1, D: 2}, Of(10, 5, 5, 11, 6, 6), false},
		{api.Line{A: 5, N: -1, D: 2}, Of(10, 5, 5, 11, 4, 4), false},
		{api.Line{A: -m, N: 2 * m, D: 1}, Of(end-1, -m, -m, end, m, m), true},
		{api.Line{A: m, N: -2 * m, D: 1}, Of(0, m, m, 1, -m, -m), true},
		{api.Line{A: m, N: 1, D: 1}, Of(0, m, m, 1, m, m), false},
		{api.Line{A: 0, N: 1, D: end}, Of(0, 0, 0, end, 1, 1), true},
		{api.Line{A: 0, N: 1, D: end}, Of(0, 0, 0, end, 0, 0), false},
		{api.Line{A: 0, N: 1, D: end}, Of(0, 0, 0, 1, 0, 0), false},
		{api.Line{A: 0, N: 1, D: end}, Of(0, 0, 0, 1, 0, 1, end-1, 0, 1), true},
		{api.Line{A: 0, N: 2, D: 2}, Of(0, 0, 0, 1, 1, 1), false},
		{api.Line{A: 0, N: 0, D: 0}, Of(0, 0, 0), false},
		{api.Line{A: 0, R: 1, D: 1}, Of(0, 0, 9), false},
		{api.Line{A: 0, R: -1, N: 1, D: 2}, Of(0, -9, 9), false},
		{api.Line{A: m + 1, D: 1}, Of(0, -m, m), false},
		{api.Line{A: math.MinInt64, R: math.MinInt64, N: math.MinInt64, D: math.MinInt64}, Of(0, -m, m), false},
	}
}
