package slide_test

import (
	"math/big"
	"slices"
	"testing"

	"yearbook/api"
	"yearbook/bandrows"
	"yearbook/line"
	"yearbook/pmc"
	"yearbook/slide"
	"yearbook/swing"
)

const (
	maxBack  = int64(api.MaxBack)
	maxSlope = int64(api.MaxSlope)
	maxTime  = int64(api.MaxTime)
)

func over(n, d int64) api.Slope {
	return api.Slope{N: n, D: d}
}

// at tells bands at the times 0, 1, 2 and so on: two ends each.
func at(ends ...int64) []api.Band {
	var l []api.Band
	for i := 0; i+1 < len(ends); i += 2 {
		l = append(l, api.Band{T: int64(i / 2), Lo: ends[i], Hi: ends[i+1]})
	}
	return l
}

func slopeOf(r *big.Rat) api.Slope {
	return over(r.Num().Int64(), r.Denom().Int64())
}

func whole(n int64) *big.Rat {
	return new(big.Rat).SetInt64(n)
}

func isIn(v *big.Rat, b api.Band) bool {
	return v.Cmp(whole(b.Lo)) >= 0 && v.Cmp(whole(b.Hi)) <= 0
}

// along tells what is v at a time, and rises by the slope s, dt later.
func along(v int64, s *big.Rat, dt int64) *big.Rat {
	climb := new(big.Rat).Mul(s, whole(dt))
	return climb.Add(climb, whole(v))
}

// goes says whether a line that may be goes through bands, in numbers that lose nothing.
func goes(x api.Line, l []api.Band) bool {
	isBeside := func(b api.Band) bool {
		exact := along(x.A, big.NewRat(x.N, x.D), b.T-l[0].T)
		return !isIn(exact.Add(exact, big.NewRat(x.R, x.D)), b)
	}
	return !slices.ContainsFunc(l, isBeside)
}

// part is some bands through which a line goes, and the slopes that they let.
type part struct {
	bands           []api.Band
	least, greatest *big.Rat
}

// first tells the longest part that begins with the first band, by the chapter's own words: what each two bands let.
func first(l []api.Band) part {
	p := part{l[:1], whole(-maxSlope), whole(maxSlope)}
	for n := 2; n <= len(l); n++ {
		later := l[n-1]
		least, greatest := p.least, p.greatest
		for _, earlier := range l[:n-1] {
			dt := later.T - earlier.T
			if lo := big.NewRat(later.Lo-earlier.Hi, dt); lo.Cmp(least) > 0 {
				least = lo
			}
			if hi := big.NewRat(later.Hi-earlier.Lo, dt); hi.Cmp(greatest) < 0 {
				greatest = hi
			}
		}
		if least.Cmp(greatest) > 0 {
			return p
		}
		p = part{l[:n], least, greatest}
	}
	return p
}

func cut(l []api.Band) []part {
	var parts []part
	for len(l) > 0 {
		p := first(l)
		parts = append(parts, p)
		l = l[len(p.bands):]
	}
	return parts
}

// fit tells the line by the chapter's own words.
func (p part) fit() api.Line {
	s := new(big.Rat)
	switch {
	case p.least.Sign() > 0:
		s = p.least
	case p.greatest.Sign() < 0:
		s = p.greatest
	}
	start := along(p.bands[0].Lo, s, 0)
	for _, b := range p.bands {
		if c := along(b.Lo, s, p.bands[0].T-b.T); c.Cmp(start) > 0 {
			start = c
		}
	}
	start.Mul(start, whole(s.Denom().Int64()))
	a, r := new(big.Int).DivMod(start.Num(), s.Denom(), new(big.Int))
	return api.Line{A: a.Int64(), R: r.Int64(), N: s.Num().Int64(), D: s.Denom().Int64()}
}

// straight tells rows of many bands through all of which a line goes that is not flat, or is, about 0 and about the ends of what may be told.
func straight() [][]api.Band {
	var l [][]api.Band
	below := bandrows.Below(5)
	for _, n := range []int{9, 70, 256} {
		for _, climb := range []*big.Rat{big.NewRat(0, 1), big.NewRat(1, 3), big.NewRat(-7, 2), big.NewRat(900, 7)} {
			for _, middle := range []int64{0, maxBack - 300000, 300000 - maxBack} {
				row, t := []api.Band(nil), below(9)
				for range n {
					exact := along(middle, climb, t)
					v := new(big.Int).Div(exact.Num(), exact.Denom()).Int64()
					row = append(row, api.Band{T: t, Lo: v - below(4), Hi: v + 1 + below(4)})
					t += 1 + below(7)
				}
				l = append(l, row)
			}
		}
	}
	return l
}

func allRows() [][]api.Band {
	return slices.Concat(bandrows.Various(), straight())
}

// holdPart holds what is told of bands through all of which a line goes.
func holdPart(t *testing.T, p part) {
	t.Helper()
	least, greatest, e := slide.Slopes(p.bands)
	if least != slopeOf(p.least) || greatest != slopeOf(p.greatest) || e != api.OK {
		t.Fatalf("Slopes(%v): %v %v %d, not %v %v", p.bands, least, greatest, e, p.least, p.greatest)
	}
	x, e := slide.Fit(p.bands)
	if want := p.fit(); x != want || e != api.OK {
		t.Fatalf("Fit(%v): %v %d, not %v", p.bands, x, e, want)
	}
	if line.Check(x) != api.OK || !goes(x, p.bands) || !slide.Through(p.bands, x) {
		t.Fatalf("%v does not go through %v", x, p.bands)
	}
	for _, b := range p.bands {
		if v, e := line.At(x, b.T-p.bands[0].T); e != api.OK || v < b.Lo || v > b.Hi {
			t.Fatalf("%v: %d %d, not in %v", x, v, e, b)
		}
	}
}

// holdNone holds what is told of bands that no line goes through.
func holdNone(t *testing.T, l []api.Band) {
	t.Helper()
	if least, greatest, e := slide.Slopes(l); least != over(0, 0) || greatest != over(0, 0) || e != api.ErrFit {
		t.Fatalf("Slopes(%v): %v %v %d", l, least, greatest, e)
	}
	if x, e := slide.Fit(l); x != (api.Line{}) || e != api.ErrFit {
		t.Fatalf("Fit(%v): %v %d", l, x, e)
	}
}

func TestRows(t *testing.T) {
	// P10.1 to P10.3, by the chapter's own words: all small rows, long ones and far ones, and their parts.
	none, some := 0, 0
	for _, l := range allRows() {
		var counts []int
		for _, p := range cut(l) {
			counts = append(counts, len(p.bands))
			holdPart(t, p)
		}
		if got, e := slide.Cut(l); !slices.Equal(got, counts) || e != api.OK {
			t.Fatalf("Cut(%v): %v %d, not %v", l, got, e, counts)
		}
		if n, e := slide.Longest(l); n != counts[0] || e != api.OK {
			t.Fatalf("Longest(%v): %d %d, not %d", l, n, e, counts[0])
		}
		if len(counts) == 1 {
			some++
			continue
		}
		none++
		// Once no line goes through the first ones, none goes through these and more.
		for _, n := range []int{counts[0] + 1, (counts[0] + 1 + len(l)) / 2, len(l)} {
			holdNone(t, l[:n])
		}
	}
	if none < 1000 || some < 1000 {
		t.Errorf("a line goes through %d, and none through %d: too few to tell", some, none)
	}
}

func TestSlopesEdges(t *testing.T) {
	// P10.1: lowest terms, the ends of times and values, and what only the last digits tell.
	const m, end = maxBack, maxTime
	for _, x := range []struct {
		l               []api.Band
		least, greatest api.Slope
		e               api.Errno
	}{
		{bandrows.Of(0, 0, 0), over(-maxSlope, 1), over(maxSlope, 1), api.OK},
		{bandrows.Of(end, m, m), over(-maxSlope, 1), over(maxSlope, 1), api.OK},
		{bandrows.Of(7, -m, m), over(-maxSlope, 1), over(maxSlope, 1), api.OK},
		{bandrows.Of(0, 0, 0, 1, 0, 0), over(0, 1), over(0, 1), api.OK},
		{bandrows.Of(3, 0, 0, 9, -4, 4), over(-2, 3), over(2, 3), api.OK},
		{bandrows.Of(3, -1, 1, 9, -1, 1), over(-1, 3), over(1, 3), api.OK},
		{bandrows.Of(0, -m, -m, 1, m, m), over(maxSlope, 1), over(maxSlope, 1), api.OK},
		{bandrows.Of(0, m, m, 1, -m, -m), over(-maxSlope, 1), over(-maxSlope, 1), api.OK},
		{bandrows.Of(end-1, -m, m, end, -m, m), over(-maxSlope, 1), over(maxSlope, 1), api.OK},
		{bandrows.Of(0, -m, m, end, -m, m), over(-1<<21-1, 1<<7), over(1<<21+1, 1<<7), api.OK},
		{bandrows.Of(0, 0, 0, end, 1, 1), over(1, end), over(1, end), api.OK},
		{bandrows.Of(0, 0, 0, end-1, 0, 1, end, 1, 1), over(1, end), over(1, end), api.OK},
		{bandrows.Of(0, 0, 0, end-1, 1, 2, end, 1, 1), over(0, 0), over(0, 0), api.ErrFit},
		{bandrows.Of(0, 0, 0, end-1, m, m, end, m, m), over(0, 0), over(0, 0), api.ErrFit},
		{bandrows.Of(0, 0, 0, end-1, m-1, m, end, m, m), over(0, 0), over(0, 0), api.ErrFit},
		{bandrows.Of(0, 0, 0, 1, 0, 1, 2, 1, 1), over(1, 2), over(1, 2), api.OK},
		{bandrows.Of(0, 0, 0, 1, 1, 1, 2, 2, 2), over(1, 1), over(1, 1), api.OK},
		{bandrows.Of(0, 0, 0, 1, 1, 1, 2, 3, 3), over(0, 0), over(0, 0), api.ErrFit},
		{bandrows.Of(0, 0, 0, 1, 0, 1, 2, 3, 3), over(0, 0), over(0, 0), api.ErrFit},
		{bandrows.Of(0, 0, 0, 1, 0, 1, 2, 2, 3), over(1, 1), over(1, 1), api.OK},
		{bandrows.Of(0, 0, 9, 1, 5, 6, 2, 0, 9), over(-4, 1), over(4, 1), api.OK},
		{bandrows.Of(0, -9, 0, 2, 0, 20, 3, 9, 9), over(3, 1), over(6, 1), api.OK},
	} {
		if least, greatest, e := slide.Slopes(x.l); least != x.least || greatest != x.greatest || e != x.e {
			t.Errorf("Slopes(%v): %v %v %d, not %v %v %d", x.l, least, greatest, e, x.least, x.greatest, x.e)
		}
	}
}

func TestThrough(t *testing.T) {
	// P10.1: the exact value counts, not the value; times are counted from the first band on; both ends are in; false of a line that may not be.
	for x := range bandrows.Tries() {
		if got := slide.Through(x.Bands, x.Line); got != x.Through {
			t.Fatalf("Through, %v and %v: %v", x.Line, x.Bands, got)
		}
	}
}

func TestThroughEachPlace(t *testing.T) {
	// P10.1
	for i := range 256 {
		l := bandrows.Same(256, -1, 1)
		if !slide.Through(l, api.Line{A: 1, D: 1}) {
			t.Fatalf("Through(%v)", l)
		}
		l[i].Hi = 0
		if slide.Through(l, api.Line{A: 1, D: 1}) {
			t.Fatalf("Through(%v)", l)
		}
	}
}

func TestFitEdges(t *testing.T) {
	// P10.2: the flattest slope, in lowest terms, and of its lines the lowest one, that may begin between two numbers.
	const m, end = maxBack, maxTime
	for _, x := range []struct {
		l    []api.Band
		want api.Line
		e    api.Errno
	}{
		{bandrows.Of(0, m, m), api.Line{A: m, D: 1}, api.OK},
		{bandrows.Of(end, -m, m), api.Line{A: -m, D: 1}, api.OK},
		{bandrows.Of(0, 0, 9, 1, 5, 7), api.Line{A: 5, D: 1}, api.OK},
		{bandrows.Of(0, 5, 7, 1, 0, 9), api.Line{A: 5, D: 1}, api.OK},
		{bandrows.Of(0, 0, 5, 1, 5, 9), api.Line{A: 5, D: 1}, api.OK},
		{bandrows.Of(0, 5, 9, 1, 0, 5), api.Line{A: 5, D: 1}, api.OK},
		{bandrows.Of(0, 0, 2, 4, 4, 6), api.Line{A: 2, N: 1, D: 2}, api.OK},
		{bandrows.Of(0, 4, 6, 4, 0, 2), api.Line{A: 4, N: -1, D: 2}, api.OK},
		{bandrows.Of(0, 0, 1, 1, 1, 1, 3, 2, 2), api.Line{A: 0, R: 1, N: 1, D: 2}, api.OK},
		{bandrows.Of(0, -1, 0, 1, -1, -1, 3, -2, -2), api.Line{A: -1, R: 1, N: -1, D: 2}, api.OK},
		{bandrows.Of(10, 0, 9, 11, 1, 1, 14, 3, 3), api.Line{A: 0, R: 1, N: 2, D: 3}, api.OK},
		{bandrows.Of(10, 0, 9, 12, 1, 1, 15, 3, 3), api.Line{}, api.ErrFit},
		{bandrows.Of(10, -1, 9, 12, 1, 1, 15, 3, 3), api.Line{A: -1, R: 2, N: 2, D: 3}, api.OK},
		{bandrows.Of(0, m, m, 1, -m, -m), api.Line{A: m, N: -maxSlope, D: 1}, api.OK},
		{bandrows.Of(0, -m, -m, 1, m, m), api.Line{A: -m, N: maxSlope, D: 1}, api.OK},
		{bandrows.Of(0, m, m, end, -m, -m), api.Line{A: m, N: -1<<21 - 1, D: 1 << 7}, api.OK},
		{bandrows.Of(0, -m, m, end-1, m-1, m-1, end, m, m), api.Line{A: m - end, N: 1, D: 1}, api.OK},
		{bandrows.Of(0, -m, m, end-1, m, m, end, m-1, m-1), api.Line{}, api.ErrFit},
		{bandrows.Of(0, m-1, m, 2, m, m, end, m, m), api.Line{A: m, D: 1}, api.OK},
		{bandrows.Of(0, m-1, m, end-1, m, m, end, m, m), api.Line{A: m, D: 1}, api.OK},
		{bandrows.Of(0, -m, 1-m, 1, 1-m, 1-m, 3, 2-m, 2-m), api.Line{A: -m, R: 1, N: 1, D: 2}, api.OK},
	} {
		if got, e := slide.Fit(x.l); got != x.want || e != x.e {
			t.Errorf("Fit(%v): %v %d, not %v %d", x.l, got, e, x.want, x.e)
		}
	}
}

func TestCutOfMany(t *testing.T) {
	// P10.3: 256 bands that are one part, that are two each, and of which the last one, or the first one, is for itself.
	var even, steps, bent []api.Band
	for i := range int64(256) {
		even = append(even, api.Band{T: 3 * i, Lo: 7 * i, Hi: 7 * i})
		steps = append(steps, api.Band{T: i, Lo: i * i, Hi: i * i})
		bent = append(bent, api.Band{T: i, Lo: 5 * max(i, 100), Hi: 5 * max(i, 100)})
	}
	last := slices.Clone(even)
	last[255].Lo, last[255].Hi = 0, 1
	off := slices.Clone(even)
	off[0].Lo, off[0].Hi = 100, 100
	for _, x := range []struct {
		l      []api.Band
		counts []int
	}{
		{even, []int{256}},
		{even[:255], []int{255}},
		{even[255:], []int{1}},
		{bandrows.Same(256, -1, 1), []int{256}},
		{steps, slices.Repeat([]int{2}, 128)},
		{steps[:255], append(slices.Repeat([]int{2}, 127), 1)},
		{bent, []int{101, 155}},
		{last, []int{255, 1}},
		{off, []int{2, 254}},
	} {
		if got, e := slide.Cut(x.l); !slices.Equal(got, x.counts) || e != api.OK {
			t.Errorf("Cut: %v %d, not %v", got, e, x.counts)
		}
		if n, e := slide.Longest(x.l); n != x.counts[0] || e != api.OK {
			t.Errorf("Longest: %d %d, not %d", n, e, x.counts[0])
		}
	}
}

// corners tells the least and the greatest slope of all lines that lead from an end of one band to an end of another one, and go through all; false, if there is none. If any line goes through two bands or more, it can be moved, and turned both ways, till it is such a line.
func corners(l []api.Band) (least, greatest *big.Rat, some bool) {
	for i, a := range l {
		for _, b := range l[i+1:] {
			for _, n := range [][2]int64{{a.Lo, b.Lo}, {a.Lo, b.Hi}, {a.Hi, b.Lo}, {a.Hi, b.Hi}} {
				s := big.NewRat(n[1]-n[0], b.T-a.T)
				isBeside := func(c api.Band) bool { return !isIn(along(n[0], s, c.T-a.T), c) }
				if slices.ContainsFunc(l, isBeside) {
					continue
				}
				if !some || s.Cmp(least) < 0 {
					least = s
				}
				if !some || s.Cmp(greatest) > 0 {
					greatest = s
				}
				some = true
			}
		}
	}
	return least, greatest, some
}

func TestAnyLineThroughCorners(t *testing.T) {
	// P10.1, P10.4: there is a line of just the slopes that the bands let; if none goes through, none is told.
	for _, l := range bandrows.Various() {
		if len(l) < 2 || len(l) > 5 {
			continue
		}
		least, greatest, some := corners(l)
		if !some {
			holdNone(t, l)
			continue
		}
		lo, hi, e := slide.Slopes(l)
		if lo != slopeOf(least) || hi != slopeOf(greatest) || e != api.OK {
			t.Fatalf("Slopes(%v): %v %v %d, not %v %v", l, lo, hi, e, least, greatest)
		}
		if x, e := slide.Fit(l); !goes(x, l) || e != api.OK {
			t.Fatalf("Fit(%v): %v %d", l, x, e)
		}
	}
}

func TestNoneIsFlatter(t *testing.T) {
	// P10.2, P10.4: if any line goes through, with whatever fractions, Fit's does, and none is less steep; of the same slope none is lower.
	for _, l := range bandrows.Few() {
		x, e := slide.Fit(l)
		for _, other := range bandrows.Lines() {
			if line.Check(other) != api.OK || !goes(other, l) {
				continue
			}
			if e != api.OK {
				t.Fatalf("Fit(%v): %d, though %v goes through", l, e, other)
			}
			steeper := max(x.N, -x.N)*other.D > max(other.N, -other.N)*x.D
			higher := x.N == other.N && x.D == other.D && x.A*x.D+x.R > other.A*other.D+other.R
			if steeper || higher {
				t.Fatalf("Fit(%v): %v, though %v goes through", l, x, other)
			}
		}
	}
}

// longest goes by the chapter's own words; of many bands that takes long, and TestRows holds that Longest tells the same.
func longest(l []api.Band) int {
	if len(l) <= 20 {
		return len(first(l).bands)
	}
	n, _ := slide.Longest(l)
	return n
}

// fewest tells how few parts there are in any way to cut bands, through each of which a line goes: place by place, over all parts that may end there. (A line that goes through a part goes through its first ones.)
func fewest(l []api.Band) int {
	upTo := slices.Repeat([]int{len(l)}, len(l)+1)
	upTo[0] = 0
	for i := range l {
		most := longest(l[i:])
		for n := 1; n <= most; n++ {
			upTo[i+n] = min(upTo[i+n], upTo[i]+1)
		}
	}
	return upTo[len(l)]
}

func TestFewest(t *testing.T) {
	// P10.4: no way has fewer parts, and so neither layer 8's nor layer 9's has.
	fewer := 0
	for _, l := range allRows() {
		counts, _ := slide.Cut(l)
		constants, _ := pmc.Cut(l)
		swung, _ := swing.Cut(l)
		if len(counts) > len(constants) || len(counts) > len(swung) {
			t.Fatalf("Cut(%v): %v, and %v by constants, %v by swing", l, counts, constants, swung)
		}
		if len(counts) < min(len(constants), len(swung)) {
			fewer++
		}
		if len(l) > 90 {
			continue
		}
		if n := fewest(l); len(counts) != n {
			t.Fatalf("Cut(%v): %v, and there is a way with %d parts", l, counts, n)
		}
	}
	if fewer < 100 {
		t.Errorf("just %d rows are cut into fewer parts than by others: too few to tell", fewer)
	}
}

// sameCuts holds that both are cut the same, and answers what is told of the other's slopes and line.
func sameCuts(t *testing.T, l, other []api.Band) ([2]api.Slope, api.Line, api.Errno) {
	t.Helper()
	counts, _ := slide.Cut(l)
	if got, e := slide.Cut(other); !slices.Equal(got, counts) || e != api.OK {
		t.Fatalf("Cut(%v): %v, and of %v: %v %d", l, counts, other, got, e)
	}
	if n, e := slide.Longest(other); n != counts[0] || e != api.OK {
		t.Fatalf("Longest(%v): %d %d, not %d", other, n, e, counts[0])
	}
	least, greatest, e := slide.Slopes(other)
	x, again := slide.Fit(other)
	if e != again {
		t.Fatalf("Slopes(%v): %d, Fit: %d", other, e, again)
	}
	return [2]api.Slope{least, greatest}, x, e
}

func TestWheneverTheyBegin(t *testing.T) {
	// P10.4: it is all one at which time the bands begin.
	for _, l := range allRows() {
		slopes, x, e := sameCuts(t, l, l)
		for _, by := range []int64{-l[0].T, maxTime - l[len(l)-1].T} {
			moved := slices.Clone(l)
			for i := range moved {
				moved[i].T += by
			}
			gotSlopes, got, gotErr := sameCuts(t, l, moved)
			if gotSlopes != slopes || got != x || gotErr != e {
				t.Fatalf("%v: %v %v %d, and of %v: %v %v %d", l, slopes, x, e, moved, gotSlopes, got, gotErr)
			}
			if e == api.OK && !slide.Through(moved, x) {
				t.Fatalf("%v does not go through %v", x, moved)
			}
		}
	}
}

func TestUpsideDown(t *testing.T) {
	// P10.4: upside down they are cut the same.
	for _, l := range allRows() {
		turned := slices.Clone(l)
		for i, b := range l {
			turned[i].Lo, turned[i].Hi = -b.Hi, -b.Lo
		}
		slopes, _, e := sameCuts(t, l, l)
		got, x, gotErr := sameCuts(t, l, turned)
		if got[0].N != -slopes[1].N || got[1].N != -slopes[0].N || got[0].D != slopes[1].D || got[1].D != slopes[0].D || gotErr != e {
			t.Fatalf("Slopes(%v): %v %d, and upside down: %v %d", l, slopes, e, got, gotErr)
		}
		if e == api.OK && !goes(x, turned) {
			t.Fatalf("%v does not go through %v", x, turned)
		}
	}
}

func TestNoBands(t *testing.T) {
	// P10.1 to P10.3: ErrBands goes ahead of ErrFit, and nothing is told besides.
	for _, l := range bandrows.Wrong() {
		for _, x := range [][]api.Band{l, append(slices.Clone(l), l...), append(at(0, 0, 1, 1, 9, 9), l...)} {
			if pmc.Check(x) == api.OK {
				continue // What is nothing behind bands that may be.
			}
			if least, greatest, e := slide.Slopes(x); least != over(0, 0) || greatest != over(0, 0) || e != api.ErrBands {
				t.Errorf("Slopes(%v): %v %v %d", x, least, greatest, e)
			}
			if got, e := slide.Fit(x); got != (api.Line{}) || e != api.ErrBands {
				t.Errorf("Fit(%v): %v %d", x, got, e)
			}
			if slide.Through(x, api.Line{D: 1}) || slide.Through(x, api.Line{}) {
				t.Errorf("Through(%v)", x)
			}
			if n, e := slide.Longest(x); n != 0 || e != api.ErrBands {
				t.Errorf("Longest(%v): %d %d", x, n, e)
			}
			if counts, e := slide.Cut(x); counts != nil || e != api.ErrBands {
				t.Errorf("Cut(%v): %v %d", x, counts, e)
			}
		}
	}
}

func TestNothingIsShared(t *testing.T) {
	// R3: what is handed in stays as it is, the room behind it, too, and what is answered is new memory.
	room := append(at(0, 0, 1, 1, 3, 3, 5, 5, 5, 6), bandrows.Of(9, 1, -1, 3, 3, 3)...)
	before := slices.Clone(room)
	for n := range 6 {
		l := room[:n]
		slide.Slopes(l)
		slide.Fit(l)
		slide.Through(l, api.Line{D: 1})
		slide.Longest(l)
		counts, _ := slide.Cut(l)
		kept := slices.Clone(counts)
		for i := range counts[:cap(counts)] {
			counts[:cap(counts)][i] = -9
		}
		if again, _ := slide.Cut(l); !slices.Equal(again, kept) {
			t.Errorf("Cut, asked again: %v, not %v", again, kept)
		}
	}
	if !slices.Equal(room, before) {
		t.Errorf("what was handed in: %v", room)
	}
}

func TestExamples(t *testing.T) {
	// The chapter's examples.
	l := at(0, 2, 5, 6)
	if least, greatest, e := slide.Slopes(l); least != over(3, 1) || greatest != over(6, 1) || e != api.OK {
		t.Errorf("Slopes: %v %v %d", least, greatest, e)
	}
	if x, e := slide.Fit(l); x != (api.Line{A: 2, N: 3, D: 1}) || e != api.OK {
		t.Errorf("Fit: %v %d", x, e)
	}
	bent := at(0, 0, 1, 1, 3, 3)
	for _, l := range [][]api.Band{bent, at(0, 0, 9, 9, 1, 1), at(0, 0, 0, 1, 3, 3)} {
		holdNone(t, l)
	}
	if x, e := slide.Fit(at(4, 5)); x != (api.Line{A: 4, D: 1}) || e != api.OK {
		t.Errorf("Fit: %v %d", x, e)
	}
	if x, e := slide.Fit(at(0, 1, 1, 1, 1, 2)); x != (api.Line{A: 1, D: 1}) || e != api.OK {
		t.Errorf("Fit: %v %d", x, e)
	}
	if counts, e := slide.Cut(bent); !slices.Equal(counts, []int{2, 1}) || e != api.OK {
		t.Errorf("Cut: %v %d", counts, e)
	}
	if !slide.Through(at(0, 0, 1, 1), api.Line{N: 1, D: 1}) {
		t.Errorf("Through: false")
	}
}
