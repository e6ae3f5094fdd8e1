package line_test

import (
	"math"
	"math/big"
	"slices"
	"testing"

	"yearbook/api"
	"yearbook/line"
	"yearbook/wide"
)

var (
	noLine  = api.Line{}
	noSlope = api.Slope{}
	noSpan  = api.Span{}
	least   = api.Wide{Hi: math.MinInt64}
	most    = api.Wide{Hi: math.MaxInt64, Lo: math.MaxUint64}
)

func over(n, d int64) api.Slope {
	return api.Slope{N: n, D: d}
}

// sides tells the numbers, and those on the other side of 0.
func sides(l ...int64) []int64 {
	var both []int64
	for _, n := range l {
		both = append(both, n, -n)
	}
	slices.Sort(both)
	return slices.Compact(both)
}

func numerators() []int64 {
	return sides(0, 1, 2, 3, 6, 7, 1000, 1<<31-1, 1<<47, api.MaxBack, 3<<60, api.MaxSlope-1, api.MaxSlope)
}

func denominators() []int64 {
	return []int64{1, 2, 3, 4, 6, 9, 1000, 1 << 31, 999_999_999_989, api.MaxTime - 1, api.MaxTime}
}

func slopes() []api.Slope {
	var l []api.Slope
	for _, n := range numerators() {
		for _, d := range denominators() {
			l = append(l, over(n, d))
		}
	}
	return l
}

// noSlopes tells what may not be a slope, with those first that just miss it.
func noSlopes() []api.Slope {
	return []api.Slope{over(1, 0), over(0, 0), over(1, -1), over(api.MaxSlope+1, 1), over(-api.MaxSlope-1, 1), over(1, api.MaxTime+1), over(math.MinInt64, 1), over(math.MaxInt64, 1), over(1, math.MinInt64), over(1, math.MaxInt64), over(math.MinInt64, math.MinInt64)}
}

// lines tells lines that may be, of all slopes, with the edges of the other fields.
func lines() []api.Line {
	var l []api.Line
	for _, s := range slopes() {
		if !isLowest(s) {
			continue
		}
		for _, a := range sides(0, 1, 10, 1<<40+1, api.MaxBack-1, api.MaxBack) {
			for _, r := range slices.Compact([]int64{0, s.D / 2, s.D - 1}) {
				l = append(l, api.Line{A: a, R: r, N: s.N, D: s.D})
			}
		}
	}
	return l
}

// noLines tells what may not be a line, with one thing wrong in each but the last ones.
func noLines() []api.Line {
	return []api.Line{
		{},
		{D: 2},
		{N: 0, D: api.MaxTime},
		{N: 2, D: 4},
		{N: -6, D: 3},
		{N: api.MaxSlope, D: api.MaxTime},
		{N: 1, D: 0},
		{N: 1, D: -1},
		{N: 1, D: api.MaxTime + 1},
		{N: api.MaxSlope + 1, D: 1},
		{N: -api.MaxSlope - 1, D: 1},
		{N: math.MinInt64, D: 1},
		{N: 1, D: math.MinInt64},
		{A: api.MaxBack + 1, N: 1, D: 2},
		{A: -api.MaxBack - 1, N: 1, D: 2},
		{A: math.MinInt64, N: 1, D: 2},
		{A: math.MaxInt64, N: 1, D: 2},
		{R: -1, N: 1, D: 2},
		{R: 2, N: 1, D: 2},
		{R: 1, N: 0, D: 1},
		{R: math.MinInt64, N: 1, D: 2},
		{R: math.MaxInt64, N: 1, D: 2},
		{A: math.MinInt64, R: math.MinInt64, N: math.MinInt64, D: math.MinInt64},
	}
}

func times() []int64 {
	return []int64{0, 1, 2, 3, 10, 1 << 20, 1<<31 + 7, 1 << 47, api.MaxTime - 1, api.MaxTime}
}

func noTimes() []int64 {
	return []int64{-1, api.MaxTime + 1, math.MinInt64, math.MaxInt64}
}

func isLowest(s api.Slope) bool {
	common := new(big.Int).GCD(nil, nil, new(big.Int).Abs(big.NewInt(s.N)), big.NewInt(s.D))
	return common.IsInt64() && common.Int64() == 1
}

func ratio(s api.Slope) *big.Rat {
	return big.NewRat(s.N, s.D)
}

func bigOf(a api.Wide) *big.Int {
	n := new(big.Int).Lsh(big.NewInt(a.Hi), 64)
	return n.Add(n, new(big.Int).SetUint64(a.Lo))
}

// exactly tells a line's exact value at a time, as the document says it.
func exactly(l api.Line, dt int64) *big.Rat {
	n := new(big.Int).Mul(big.NewInt(l.N), big.NewInt(dt))
	n.Add(n, big.NewInt(l.R))
	value := new(big.Rat).SetFrac(n, big.NewInt(l.D))
	return value.Add(value, new(big.Rat).SetInt64(l.A))
}

// floor is by big.Int's Div, that rounds down for numbers above 0 to divide by, which a Rat's are.
func floor(r *big.Rat) *big.Int {
	return new(big.Int).Div(r.Num(), r.Denom())
}

// wanted tells what a call must answer whose exact answer is n.
func wanted(n *big.Int) (int64, api.Errno) {
	if n.CmpAbs(big.NewInt(api.MaxBack)) > 0 {
		return 0, api.ErrOver
	}
	return n.Int64(), api.OK
}

// P5.1.
func TestCheck(t *testing.T) {
	for _, l := range lines() {
		if e := line.Check(l); e != api.OK {
			t.Errorf("Check(%v): %d", l, e)
		}
	}
	for _, l := range noLines() {
		if e := line.Check(l); e != api.ErrLine {
			t.Errorf("Check(%v): %d", l, e)
		}
	}
	for _, s := range slopes() {
		want := api.ErrLine
		if isLowest(s) {
			want = api.OK
		}
		if e := line.Check(api.Line{N: s.N, D: s.D}); e != want {
			t.Errorf("Check of the slope %v: %d", s, e)
		}
	}
}

// P5.1: with math/big as the measure.
func TestAt(t *testing.T) {
	for _, l := range lines() {
		for _, dt := range times() {
			want, wantErr := wanted(floor(exactly(l, dt)))
			if v, e := line.At(l, dt); v != want || e != wantErr {
				t.Errorf("At(%v, %d): %d %d, not %d %d", l, dt, v, e, want, wantErr)
			}
		}
	}
}

// P5.1: the edges, written out.
func TestAtEdges(t *testing.T) {
	for _, x := range []struct {
		l    api.Line
		dt   int64
		want int64
		e    api.Errno
	}{
		{api.Line{A: 5, D: 1}, 0, 5, api.OK},
		{api.Line{A: 5, D: 1}, api.MaxTime, 5, api.OK},
		{api.Line{A: 0, N: -1, D: api.MaxTime}, 1, -1, api.OK},
		{api.Line{A: 0, N: -1, D: api.MaxTime}, api.MaxTime, -1, api.OK},
		{api.Line{A: 0, R: 1, N: -1, D: api.MaxTime}, 1, 0, api.OK},
		{api.Line{A: 0, R: 1, N: -1, D: api.MaxTime}, 2, -1, api.OK},
		{api.Line{A: api.MaxBack, D: 1}, 7, api.MaxBack, api.OK},
		{api.Line{A: api.MaxBack, N: 1, D: 2}, 1, api.MaxBack, api.OK},
		{api.Line{A: api.MaxBack, N: 1, D: 2}, 2, 0, api.ErrOver},
		{api.Line{A: api.MaxBack, R: 1, N: 1, D: 2}, 0, api.MaxBack, api.OK},
		{api.Line{A: api.MaxBack, R: 1, N: 1, D: 2}, 1, 0, api.ErrOver},
		{api.Line{A: -api.MaxBack, R: 1, N: -1, D: 2}, 1, -api.MaxBack, api.OK},
		{api.Line{A: -api.MaxBack, R: 1, N: -1, D: 2}, 2, 0, api.ErrOver},
		{api.Line{A: -api.MaxBack, N: -1, D: 2}, 1, 0, api.ErrOver},
		{api.Line{A: -api.MaxBack, N: api.MaxSlope, D: 1}, 1, api.MaxBack, api.OK},
		{api.Line{A: api.MaxBack, N: -api.MaxSlope, D: 1}, 1, -api.MaxBack, api.OK},
		{api.Line{A: api.MaxBack, N: -api.MaxSlope, D: 1}, 2, 0, api.ErrOver},
		{api.Line{A: 0, N: api.MaxSlope, D: 1}, api.MaxTime, 0, api.ErrOver},
		{api.Line{A: 0, N: -api.MaxSlope, D: 1}, api.MaxTime, 0, api.ErrOver},
		{api.Line{A: 0, N: 1 << 16, D: 1}, api.MaxTime, 0, api.ErrOver}, // 2^64, of which 64 bits keep nothing
		{api.Line{A: 0, N: 1 << 13, D: 1}, api.MaxTime, api.MaxValue, api.OK},
		{api.Line{A: 1, N: 1, D: 2}, -1, 0, api.ErrArg},
		{api.Line{A: 1, N: 1, D: 2}, api.MaxTime + 1, 0, api.ErrArg},
	} {
		if v, e := line.At(x.l, x.dt); v != x.want || e != x.e {
			t.Errorf("At(%v, %d): %d %d, not %d %d", x.l, x.dt, v, e, x.want, x.e)
		}
	}
}

// P5.1: with math/big as the measure, about the exact value and far from it.
func TestWithin(t *testing.T) {
	for _, l := range lines() {
		for _, dt := range times() {
			exact := exactly(l, dt)
			ends := []int64{math.MinInt64, -api.MaxBack, 0, api.MaxBack, math.MaxInt64}
			if v, e := line.At(l, dt); e == api.OK {
				ends = append(ends, v-1, v, v+1, v+2)
			}
			for _, lo := range ends {
				for _, hi := range ends {
					want := exact.Cmp(new(big.Rat).SetInt64(lo)) >= 0 && exact.Cmp(new(big.Rat).SetInt64(hi)) <= 0
					if line.Within(l, dt, lo, hi) != want {
						t.Errorf("Within(%v, %d, %d, %d): not %v", l, dt, lo, hi, want)
					}
				}
			}
		}
	}
}

// P5.1: the edges, written out.
func TestWithinEdges(t *testing.T) {
	half := api.Line{A: 10, R: 1, N: -3, D: 2}
	for _, x := range []struct {
		dt, lo, hi int64
		want       bool
	}{
		{0, 10, 11, true}, {0, 10, 10, false}, {0, 11, 11, false}, {0, 11, 10, false},
		{1, 9, 9, true}, {1, 9, 10, true}, {1, 8, 9, true}, {1, 10, 12, false}, {1, 7, 8, false}, {1, 10, 8, false},
		{1, math.MinInt64, math.MaxInt64, true}, {1, math.MaxInt64, math.MinInt64, false},
		{-1, math.MinInt64, math.MaxInt64, false}, {api.MaxTime + 1, math.MinInt64, math.MaxInt64, false},
		{math.MinInt64, math.MinInt64, math.MaxInt64, false}, {math.MaxInt64, math.MinInt64, math.MaxInt64, false},
		{api.MaxTime, math.MinInt64, 0, true},
	} {
		if line.Within(half, x.dt, x.lo, x.hi) != x.want {
			t.Errorf("Within(%d, %d, %d): not %v", x.dt, x.lo, x.hi, x.want)
		}
	}
}

// P5.2: At's own answers are the measure, and those of the times between, near both ends.
func TestEnds(t *testing.T) {
	for _, l := range lines() {
		for _, from := range times() {
			for _, to := range times() {
				got, e := line.Ends(l, from, to)
				want, wantErr := endsWanted(l, from, to)
				if got != want || e != wantErr {
					t.Errorf("Ends(%v, %d, %d): %v %d, not %v %d", l, from, to, got, e, want, wantErr)
				}
			}
		}
	}
}

func endsWanted(l api.Line, from, to int64) (api.Span, api.Errno) {
	if from > to {
		return noSpan, api.ErrArg
	}
	var values []int64
	for _, dt := range []int64{from, to, from + (to-from)/2, min(from+1, to), max(to-1, from)} {
		v, e := line.At(l, dt)
		if e != api.OK {
			return noSpan, e
		}
		values = append(values, v)
	}
	return api.Span{Lo: slices.Min(values), Hi: slices.Max(values)}, api.OK
}

// P5.2: the edges, and the order of its errors.
func TestEndsEdges(t *testing.T) {
	rise := api.Line{A: -api.MaxBack, N: api.MaxSlope, D: 1}
	for _, x := range []struct {
		l        api.Line
		from, to int64
		want     api.Span
		e        api.Errno
	}{
		{rise, 0, 1, api.Span{Lo: -api.MaxBack, Hi: api.MaxBack}, api.OK},
		{rise, 0, 0, api.Span{Lo: -api.MaxBack, Hi: -api.MaxBack}, api.OK},
		{rise, 0, 2, noSpan, api.ErrOver},
		{rise, 2, 3, noSpan, api.ErrOver},
		{rise, 1, 0, noSpan, api.ErrArg},
		{rise, 3, 2, noSpan, api.ErrArg},
		{rise, -1, 2, noSpan, api.ErrArg},
		{rise, 2, api.MaxTime + 1, noSpan, api.ErrArg},
		{rise, 2, -1, noSpan, api.ErrArg},
		{rise, api.MaxTime + 1, 0, noSpan, api.ErrArg},
		{rise, math.MinInt64, math.MaxInt64, noSpan, api.ErrArg},
		{api.Line{A: 4, N: -1, D: 3}, 0, 3, api.Span{Lo: 3, Hi: 4}, api.OK},
		{api.Line{A: 4, N: -1, D: 3}, 1, 3, api.Span{Lo: 3, Hi: 3}, api.OK},
		{api.Line{A: 4, D: 1}, 0, api.MaxTime, api.Span{Lo: 4, Hi: 4}, api.OK},
		{api.Line{D: 2}, 1, 0, noSpan, api.ErrLine},
	} {
		if got, e := line.Ends(x.l, x.from, x.to); got != x.want || e != x.e {
			t.Errorf("Ends(%v, %d, %d): %v %d, not %v %d", x.l, x.from, x.to, got, e, x.want, x.e)
		}
	}
}

// P5.1, P5.2: what may not be goes ahead of all else, and a time that may not be ahead of values.
func TestWrongLinesAndTimes(t *testing.T) {
	for _, l := range noLines() {
		for _, dt := range append(times(), noTimes()...) {
			if v, e := line.At(l, dt); v != 0 || e != api.ErrLine {
				t.Errorf("At(%v, %d): %d %d", l, dt, v, e)
			}
			if s, e := line.Ends(l, dt, 0); s != noSpan || e != api.ErrLine {
				t.Errorf("Ends(%v, %d, 0): %v %d", l, dt, s, e)
			}
			if line.Within(l, dt, math.MinInt64, math.MaxInt64) {
				t.Errorf("Within(%v, %d)", l, dt)
			}
		}
	}
	steep := api.Line{A: 1, N: api.MaxSlope, D: 1}
	for _, dt := range noTimes() {
		if v, e := line.At(steep, dt); v != 0 || e != api.ErrArg {
			t.Errorf("At(%d): %d %d", dt, v, e)
		}
		if line.Within(steep, dt, math.MinInt64, math.MaxInt64) {
			t.Errorf("Within(%d)", dt)
		}
	}
}

// P5.3: with math/big as the measure, that keeps ratios in lowest terms.
func TestLowest(t *testing.T) {
	for _, s := range slopes() {
		r := ratio(s)
		want := over(r.Num().Int64(), r.Denom().Int64())
		if got, e := line.Lowest(s); got != want || e != api.OK {
			t.Errorf("Lowest(%v): %v %d, not %v", s, got, e, want)
		}
	}
	for _, s := range noSlopes() {
		if got, e := line.Lowest(s); got != noSlope || e != api.ErrSlope {
			t.Errorf("Lowest(%v): %v %d", s, got, e)
		}
	}
	for _, x := range [][2]api.Slope{
		{over(0, api.MaxTime), over(0, 1)},
		{over(0, 1), over(0, 1)},
		{over(-6, 4), over(-3, 2)},
		{over(api.MaxTime, api.MaxTime), over(1, 1)},
		{over(api.MaxSlope, 1), over(api.MaxSlope, 1)},
		{over(-api.MaxSlope, 2), over(-api.MaxBack, 1)},
		{over(api.MaxSlope, api.MaxTime), over(1<<21+1, 1<<7)},
	} {
		if got, e := line.Lowest(x[0]); got != x[1] || e != api.OK {
			t.Errorf("Lowest(%v): %v %d, not %v", x[0], got, e, x[1])
		}
	}
}

// P5.3: with math/big as the measure.
func TestCompareAndNearest(t *testing.T) {
	for _, a := range slopes() {
		for _, b := range slopes() {
			want := ratio(a).Cmp(ratio(b))
			if n, ok := line.Compare(a, b); n != want || !ok {
				t.Errorf("Compare(%v, %v): %d %v, not %d", a, b, n, ok, want)
			}
			nearest, wantErr := nearestWanted(a, b)
			if got, e := line.Nearest(a, b); got != nearest || e != wantErr {
				t.Errorf("Nearest(%v, %v): %v %d, not %v %d", a, b, got, e, nearest, wantErr)
			}
		}
	}
}

// nearestWanted tells the least far from 0 of both ends, or 0, where that is between them.
func nearestWanted(lo, hi api.Slope) (api.Slope, api.Errno) {
	a, b := ratio(lo), ratio(hi)
	if a.Cmp(b) > 0 {
		return noSlope, api.ErrArg
	}
	nearest := a
	if new(big.Rat).Abs(b).Cmp(new(big.Rat).Abs(a)) < 0 {
		nearest = b
	}
	if a.Sign()*b.Sign() <= 0 {
		nearest = new(big.Rat)
	}
	return over(nearest.Num().Int64(), nearest.Denom().Int64()), api.OK
}

// P5.3: the edges, written out.
func TestNearestEdges(t *testing.T) {
	for _, x := range []struct {
		lo, hi, want api.Slope
		e            api.Errno
	}{
		{over(2, 6), over(1, 2), over(1, 3), api.OK},
		{over(-1, 2), over(-2, 6), over(-1, 3), api.OK},
		{over(2, 6), over(1, 3), over(1, 3), api.OK},
		{over(0, 6), over(1, 3), over(0, 1), api.OK},
		{over(-1, 3), over(0, 6), over(0, 1), api.OK},
		{over(0, 6), over(0, 2), over(0, 1), api.OK},
		{over(-1, 3), over(1, 3), over(0, 1), api.OK},
		{over(1, 2), over(1, 3), noSlope, api.ErrArg},
		{over(0, 1), over(-1, api.MaxTime), noSlope, api.ErrArg},
		{over(api.MaxSlope, 1), over(api.MaxSlope, 1), over(api.MaxSlope, 1), api.OK},
		{over(1, api.MaxTime), over(1, api.MaxTime-1), over(1, api.MaxTime), api.OK},
		{over(1, api.MaxTime-1), over(1, api.MaxTime), noSlope, api.ErrArg},
	} {
		if got, e := line.Nearest(x.lo, x.hi); got != x.want || e != x.e {
			t.Errorf("Nearest(%v, %v): %v %d, not %v %d", x.lo, x.hi, got, e, x.want, x.e)
		}
	}
}

// P5.3, P5.4: what may not be a slope, be it the first or the last, goes ahead of all else.
func TestWrongSlopes(t *testing.T) {
	for _, s := range noSlopes() {
		for _, other := range append(noSlopes(), over(0, 1), over(6, 4), over(-api.MaxSlope, 1), over(api.MaxSlope, 1)) {
			for _, both := range [][2]api.Slope{{s, other}, {other, s}} {
				if n, ok := line.Compare(both[0], both[1]); n != 0 || ok {
					t.Errorf("Compare(%v): %d %v", both, n, ok)
				}
				if got, e := line.Nearest(both[0], both[1]); got != noSlope || e != api.ErrSlope {
					t.Errorf("Nearest(%v): %v %d", both, got, e)
				}
			}
		}
		for _, a := range []int64{0, api.MaxBack + 1, math.MinInt64} {
			if l, e := line.Of(a, s); l != noLine || e != api.ErrSlope {
				t.Errorf("Of(%d, %v): %v %d", a, s, l, e)
			}
		}
		for _, c := range []api.Wide{wide.Of(0), least, most} {
			if l, e := line.Raised(c, s); l != noLine || e != api.ErrSlope {
				t.Errorf("Raised(%v, %v): %v %d", c, s, l, e)
			}
		}
	}
}

// P5.4: what is made may be, is a at 0, exactly, and rises by the slope.
func TestOf(t *testing.T) {
	for _, s := range slopes() {
		for _, a := range sides(0, 1, 5, 1<<50, api.MaxBack-1, api.MaxBack) {
			l, e := line.Of(a, s)
			if e != api.OK || line.Check(l) != api.OK || l.A != a || l.R != 0 || ratio(over(l.N, l.D)).Cmp(ratio(s)) != 0 {
				t.Errorf("Of(%d, %v): %v %d", a, s, l, e)
			}
		}
		for _, a := range []int64{api.MaxBack + 1, -api.MaxBack - 1, math.MinInt64, math.MaxInt64} {
			if l, e := line.Of(a, s); l != noLine || e != api.ErrArg {
				t.Errorf("Of(%d, %v): %v %d", a, s, l, e)
			}
		}
	}
}

// heights tells numbers about those, over d, at which a line just may begin, and all lengths of others.
func heights(d int64) []api.Wide {
	l := []api.Wide{least, most}
	for _, far := range sides(0, 1, 7, 1<<40, api.MaxBack, api.MaxBack+1, math.MaxInt64) {
		for _, rest := range []int64{-1, 0, 1, d / 2, d - 1} {
			c, _ := wide.Add(wide.Mul(far, d), wide.Of(rest))
			l = append(l, c)
		}
	}
	return l
}

// P5.4: with math/big as the measure.
func TestRaised(t *testing.T) {
	for _, s := range slopes() {
		for _, c := range heights(s.D) {
			got, e := line.Raised(c, s)
			if !isLowest(s) {
				if got != noLine || e != api.ErrArg {
					t.Errorf("Raised(%v, %v), not in lowest terms: %v %d", c, s, got, e)
				}
				continue
			}
			a, r := new(big.Int).DivMod(bigOf(c), big.NewInt(s.D), new(big.Int))
			want, wantErr := noLine, api.ErrOver
			if a.CmpAbs(big.NewInt(api.MaxBack)) <= 0 {
				want, wantErr = api.Line{A: a.Int64(), R: r.Int64(), N: s.N, D: s.D}, api.OK
			}
			if got != want || e != wantErr {
				t.Errorf("Raised(%v, %v): %v %d, not %v %d", c, s, got, e, want, wantErr)
			}
		}
	}
}

// P5.4: the edges, written out.
func TestRaisedEdges(t *testing.T) {
	top := wide.Mul(api.MaxBack, 2)
	beyond, _ := wide.Add(top, wide.Of(2))
	bottom := wide.Mul(-api.MaxBack, 2)
	below, _ := wide.Sub(bottom, wide.Of(1))
	last, _ := wide.Add(top, wide.Of(1))
	half := over(3, 2)
	for _, x := range []struct {
		c    api.Wide
		s    api.Slope
		want api.Line
		e    api.Errno
	}{
		{wide.Of(-7), half, api.Line{A: -4, R: 1, N: 3, D: 2}, api.OK},
		{wide.Of(0), half, api.Line{A: 0, R: 0, N: 3, D: 2}, api.OK},
		{wide.Of(-1), half, api.Line{A: -1, R: 1, N: 3, D: 2}, api.OK},
		{top, half, api.Line{A: api.MaxBack, N: 3, D: 2}, api.OK},
		{last, half, api.Line{A: api.MaxBack, R: 1, N: 3, D: 2}, api.OK},
		{beyond, half, noLine, api.ErrOver},
		{bottom, half, api.Line{A: -api.MaxBack, N: 3, D: 2}, api.OK},
		{below, half, noLine, api.ErrOver},
		{beyond, over(6, 4), noLine, api.ErrArg},
		{wide.Of(3), over(0, 2), noLine, api.ErrArg},
		{wide.Of(3), over(0, 1), api.Line{A: 3, D: 1}, api.OK},
		{least, half, noLine, api.ErrOver},
		{most, half, noLine, api.ErrOver},
	} {
		if got, e := line.Raised(x.c, x.s); got != x.want || e != x.e {
			t.Errorf("Raised(%v, %v): %v %d, not %v %d", x.c, x.s, got, e, x.want, x.e)
		}
	}
}

// P5.5: from one time to the next one a value changes by the slope, rounded down or up, and so never goes back; and the exact value is from it to the next number, that one not in.
func TestWhatFollows(t *testing.T) {
	for _, l := range lines() {
		down := floor(ratio(over(l.N, l.D))).Int64()
		up := -floor(ratio(over(-l.N, l.D))).Int64()
		for _, from := range times() {
			for dt := from; dt < min(from+20, api.MaxTime); dt++ {
				v, e := line.At(l, dt)
				next, nextErr := line.At(l, dt+1)
				if e != api.OK || nextErr != api.OK {
					continue
				}
				if next-v != down && next-v != up {
					t.Errorf("%v at %d, and next: %d, %d", l, dt, v, next)
				}
				if !line.Within(l, dt, v, v+1) || line.Within(l, dt, v+1, v+1) || line.Within(l, dt, v-1, v-1) {
					t.Errorf("%v at %d: not %d", l, dt, v)
				}
			}
		}
	}
}

// P5.5: small lines, time by time, all of them.
func TestSmallLines(t *testing.T) {
	for n := int64(-6); n <= 6; n++ {
		for d := int64(1); d <= 5; d++ {
			for r := int64(-1); r <= d; r++ {
				l := api.Line{A: 3, R: r, N: n, D: d}
				if may := isLowest(over(n, d)) && 0 <= r && r < d; may != (line.Check(l) == api.OK) {
					t.Errorf("Check(%v): not %v", l, may)
				} else if may {
					holdSmall(t, l)
				}
			}
		}
	}
}

func holdSmall(t *testing.T, l api.Line) {
	t.Helper()
	for from := int64(0); from < 8; from++ {
		span := api.Span{Lo: math.MaxInt64, Hi: math.MinInt64}
		for dt := from; dt < 16; dt++ {
			want := floor(exactly(l, dt)).Int64()
			if v, e := line.At(l, dt); v != want || e != api.OK {
				t.Errorf("At(%v, %d): %d %d, not %d", l, dt, v, e, want)
			}
			span = api.Span{Lo: min(span.Lo, want), Hi: max(span.Hi, want)}
			if got, e := line.Ends(l, from, dt); got != span || e != api.OK {
				t.Errorf("Ends(%v, %d, %d): %v %d, not %v", l, from, dt, got, e, span)
			}
		}
	}
}
