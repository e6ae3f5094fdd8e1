package fsum_test

import (
	"math"
	"math/big"
	"slices"
	"testing"

	"yearbook/api"
	"yearbook/fsum"
	"yearbook/line"
	"yearbook/wide"
)

var (
	nought    = api.Wide{}
	topTerm   = api.Wide{Hi: api.MaxTerm}
	lastTerm  = api.Wide{Hi: -api.MaxTerm}
	least     = api.Wide{Hi: math.MinInt64}
	most      = api.Wide{Hi: math.MaxInt64, Lo: math.MaxUint64}
	noTerms   = []api.Wide{{Hi: api.MaxTerm, Lo: 1}, {Hi: -api.MaxTerm - 1, Lo: math.MaxUint64}, {Hi: api.MaxTerm + 1}, least, most}
	noCounts  = []int{-1, api.MaxSegPoints + 1, math.MinInt, math.MaxInt}
	noTimes   = []int64{-1, api.MaxTime + 1, math.MinInt64, math.MaxInt64}
	noDivisor = []int64{0, -1, api.MaxTime + 1, math.MinInt64, math.MaxInt64}
)

func counts() []int {
	return []int{0, 1, 2, 3, 7, 100, api.MaxSegPoints - 1, api.MaxSegPoints}
}

func divisors() []int64 {
	return []int64{1, 2, 3, 7, 10, 97, 1 << 20, 999_999_999_989, 1<<47 + 1, api.MaxTime - 1, api.MaxTime}
}

// terms tells terms on both sides of 0, and those about m, and about a row of m.
func terms(m int64) []api.Wide {
	var l []api.Wide
	for _, n := range []int64{0, 1, 2, 5, m / 3, m / 2, m - 1, m, m + 1, 3*m - 1, 1<<62 + 12345} {
		l = append(l, wide.Of(n), wide.Of(-n))
	}
	near, _ := wide.Sub(topTerm, wide.Of(1))
	far, _ := wide.Add(lastTerm, wide.Of(1))
	return append(l, topTerm, near, lastTerm, far, api.Wide{Hi: 1 << 30, Lo: 1<<63 + 11}, api.Wide{Hi: -1 << 30, Lo: 7})
}

func bigOf(a api.Wide) *big.Int {
	n := new(big.Int).Lsh(big.NewInt(a.Hi), 64)
	return n.Add(n, new(big.Int).SetUint64(a.Lo))
}

// exactly goes through the steps, as the document says them: big.Int's DivMod rounds down, of what one divides by above 0.
func exactly(n int, a, b *big.Int, m int64) (sum, rests *big.Int) {
	sum, rests = new(big.Int), new(big.Int)
	for i := range n {
		at := new(big.Int).Mul(a, big.NewInt(int64(i)))
		step, rest := new(big.Int).DivMod(at.Add(at, b), big.NewInt(m), new(big.Int))
		sum.Add(sum, step)
		rests.Add(rests, rest)
	}
	return sum, rests
}

func hold(t *testing.T, n int, a, b api.Wide, m int64) {
	t.Helper()
	wantSum, wantRests := exactly(n, bigOf(a), bigOf(b), m)
	if got, e := fsum.Sum(n, a, b, m); e != api.OK || bigOf(got).Cmp(wantSum) != 0 {
		t.Errorf("Sum(%d, %v, %v, %d): %v %d, not %v", n, a, b, m, got, e, wantSum)
	}
	if got, e := fsum.Rests(n, a, b, m); e != api.OK || big.NewInt(got).Cmp(wantRests) != 0 {
		t.Errorf("Rests(%d, %v, %v, %d): %d %d, not %v", n, a, b, m, got, e, wantRests)
	}
}

// P6.1: with math/big as the measure, that goes through the steps.
func TestSumAndRests(t *testing.T) {
	for _, m := range divisors() {
		for _, a := range terms(m) {
			for _, b := range terms(m) {
				for _, n := range counts() {
					hold(t, n, a, b, m)
				}
			}
		}
	}
}

// P6.1: all small rows.
func TestSmallRows(t *testing.T) {
	for m := int64(1); m <= 12; m++ {
		for a := -15; a <= 15; a++ {
			for b := -15; b <= 15; b++ {
				for n := range 15 {
					hold(t, n, wide.Of(int64(a)), wide.Of(int64(b)), m)
				}
			}
		}
	}
}

// P6.1: rows of whose two numbers the one goes into the other many times: those of Fibonacci are divided the longest.
func TestLongDivisions(t *testing.T) {
	x, y := int64(1), int64(1)
	for y <= api.MaxTime {
		for _, b := range []int64{0, 1, x, y - 1, -1, -x} {
			hold(t, api.MaxSegPoints, wide.Of(x), wide.Of(b), y)
			hold(t, api.MaxSegPoints, wide.Of(-x), wide.Of(b), y)
			hold(t, api.MaxSegPoints, wide.Of(y), wide.Of(b), x)
		}
		x, y = y, x+y
	}
}

// P6.1: the edges, written out.
func TestSumEdges(t *testing.T) {
	for _, x := range []struct {
		n     int
		a, b  api.Wide
		m     int64
		sum   api.Wide
		rests int64
	}{
		{4, wide.Of(3), wide.Of(1), 2, wide.Of(10), 2},
		{3, wide.Of(-1), wide.Of(0), 2, wide.Of(-2), 1},
		{5, wide.Of(1), wide.Of(7), 5, wide.Of(7), 10},
		{0, topTerm, lastTerm, 1, nought, 0},
		{1, topTerm, wide.Of(-1), api.MaxTime, wide.Of(-1), api.MaxTime - 1},
		{api.MaxSegPoints, nought, wide.Of(-1), api.MaxTime, wide.Of(-256), 256 * (api.MaxTime - 1)},
		{api.MaxSegPoints, nought, wide.Of(api.MaxTime - 1), api.MaxTime, nought, 256 * (api.MaxTime - 1)},
		{api.MaxSegPoints, nought, topTerm, 1, api.Wide{Hi: 256 * api.MaxTerm}, 0},
		{api.MaxSegPoints, topTerm, topTerm, 1, api.Wide{Hi: 32896 * api.MaxTerm}, 0},
		{api.MaxSegPoints, lastTerm, lastTerm, 1, api.Wide{Hi: -32896 * api.MaxTerm}, 0},
		{api.MaxSegPoints, topTerm, lastTerm, api.MaxTime, api.Wide{Hi: 32384 / 2}, 0},
	} {
		if got, e := fsum.Sum(x.n, x.a, x.b, x.m); got != x.sum || e != api.OK {
			t.Errorf("Sum(%d, %v, %v, %d): %v %d, not %v", x.n, x.a, x.b, x.m, got, e, x.sum)
		}
		if got, e := fsum.Rests(x.n, x.a, x.b, x.m); got != x.rests || e != api.OK {
			t.Errorf("Rests(%d, %v, %v, %d): %d %d, not %d", x.n, x.a, x.b, x.m, got, e, x.rests)
		}
	}
}

// P6.1: each thing that may not be, alone and with the others.
func TestWrongSteps(t *testing.T) {
	wrong := func(n int, a, b api.Wide, m int64) {
		t.Helper()
		if got, e := fsum.Sum(n, a, b, m); got != nought || e != api.ErrArg {
			t.Errorf("Sum(%d, %v, %v, %d): %v %d", n, a, b, m, got, e)
		}
		if got, e := fsum.Rests(n, a, b, m); got != 0 || e != api.ErrArg {
			t.Errorf("Rests(%d, %v, %v, %d): %d %d", n, a, b, m, got, e)
		}
	}
	one := wide.Of(1)
	for _, n := range noCounts {
		wrong(n, one, one, 1)
		wrong(n, most, least, math.MinInt64)
	}
	for _, a := range noTerms {
		for _, n := range counts() {
			wrong(n, a, one, 1)
			wrong(n, one, a, 1)
			wrong(n, a, a, api.MaxTime)
		}
	}
	for _, m := range noDivisor {
		for _, n := range counts() {
			wrong(n, one, one, m)
		}
	}
}

func lines() []api.Line {
	var l []api.Line
	for _, s := range []api.Slope{{N: 0, D: 1}, {N: -3, D: 2}, {N: 5, D: 7}, {N: 1, D: api.MaxTime}, {N: -1, D: api.MaxTime}, {N: 1 << 61, D: 999_999_999_989}, {N: api.MaxSlope, D: 1}, {N: -api.MaxSlope, D: 1}, {N: api.MaxSlope - 1, D: api.MaxTime}, {N: 1 - api.MaxSlope, D: api.MaxTime}} {
		for _, a := range []int64{0, 1, -1, 10, api.MaxBack, -api.MaxBack} {
			for _, r := range slices.Compact([]int64{0, s.D / 2, s.D - 1}) {
				l = append(l, api.Line{A: a, R: r, N: s.N, D: s.D})
			}
		}
	}
	return l
}

// valueAt tells a line's value, also where it is beyond what may be told.
func valueAt(l api.Line, dt int64) *big.Int {
	n := new(big.Int).Mul(big.NewInt(l.N), big.NewInt(dt))
	n.Add(n, big.NewInt(l.R))
	n.Div(n, big.NewInt(l.D))
	return n.Add(n, big.NewInt(l.A))
}

// P6.2: with math/big as the measure, that goes through the values, and with layer 5's own values, where they may be told.
func TestLine(t *testing.T) {
	for _, l := range lines() {
		for _, n := range counts() {
			furthest := int64(api.MaxTime / max(1, n-1))
			for _, step := range []int64{0, 1, 2, 1000, furthest} {
				for _, from := range []int64{0, 1, 77, api.MaxTime - int64(max(0, n-1))*step} {
					holdLine(t, l, from, step, n)
				}
			}
		}
	}
}

func holdLine(t *testing.T, l api.Line, from, step int64, n int) {
	t.Helper()
	if n > 0 && from+int64(n-1)*step > api.MaxTime {
		return
	}
	want := new(big.Int)
	for i := range n {
		v := valueAt(l, from+int64(i)*step)
		if told, e := line.At(l, from+int64(i)*step); e == api.OK && v.Cmp(big.NewInt(told)) != 0 {
			t.Fatalf("At(%v): %d, not %v", l, told, v)
		}
		want.Add(want, v)
	}
	if got, e := fsum.Line(l, from, step, n); e != api.OK || bigOf(got).Cmp(want) != 0 {
		t.Errorf("Line(%v, %d, %d, %d): %v %d, not %v", l, from, step, n, got, e, want)
	}
}

// P6.2: the edges, written out.
func TestLineEdges(t *testing.T) {
	half := api.Line{A: 10, R: 1, N: -3, D: 2}
	steep := api.Line{A: api.MaxBack, N: api.MaxSlope, D: 1}
	for _, x := range []struct {
		l          api.Line
		from, step int64
		n          int
		want       api.Wide
		e          api.Errno
	}{
		{half, 0, 1, 3, wide.Of(26), api.OK},
		{half, 2, 0, 2, wide.Of(14), api.OK},
		{half, 0, 2, 2, wide.Of(17), api.OK},
		{half, api.MaxTime, 1, 1, wide.Of(10 - api.MaxTime/2*3), api.OK},
		{half, api.MaxTime, api.MaxTime, 1, wide.Of(10 - api.MaxTime/2*3), api.OK},
		{half, api.MaxTime, api.MaxTime, 0, nought, api.OK},
		{half, api.MaxTime, 1, 2, nought, api.ErrArg},
		{half, 1, api.MaxTime, 2, nought, api.ErrArg},
		{half, 0, api.MaxTime, 2, wide.Of(20 - api.MaxTime/2*3), api.OK},
		{half, 0, api.MaxTime, 3, nought, api.ErrArg},
		{half, api.MaxTime - 254, 1, 256, nought, api.ErrArg},
		{steep, 0, 1, 2, wide.Mul(api.MaxBack, 4), api.OK},
		{steep, api.MaxTime, 0, 1, wide.Mul(api.MaxBack, 2*api.MaxTime+1), api.OK},
		{steep, api.MaxTime, 0, 256, wide.Mul(256*(2*api.MaxTime+1), api.MaxBack), api.OK},
	} {
		if got, e := fsum.Line(x.l, x.from, x.step, x.n); got != x.want || e != x.e {
			t.Errorf("Line(%v, %d, %d, %d): %v %d, not %v %d", x.l, x.from, x.step, x.n, got, e, x.want, x.e)
		}
	}
}

// P6.2: a line that may not be goes ahead of all else; then each thing that may not be, alone and with the others.
func TestWrongLines(t *testing.T) {
	for _, l := range []api.Line{{}, {N: 2, D: 4}, {N: 1, D: 0}, {N: 1, D: -1}, {N: api.MaxSlope + 1, D: 1}, {A: api.MaxBack + 1, D: 1}, {R: 1, D: 1}, {N: math.MinInt64, D: math.MinInt64}} {
		for _, n := range append(counts(), noCounts...) {
			for _, from := range append([]int64{0, api.MaxTime}, noTimes...) {
				if got, e := fsum.Line(l, from, from, n); got != nought || e != api.ErrLine {
					t.Errorf("Line(%v, %d, %d, %d): %v %d", l, from, from, n, got, e)
				}
			}
		}
	}
	good := api.Line{A: 1, N: 1, D: 2}
	wrong := func(from, step int64, n int) {
		t.Helper()
		if got, e := fsum.Line(good, from, step, n); got != nought || e != api.ErrArg {
			t.Errorf("Line(%d, %d, %d): %v %d", from, step, n, got, e)
		}
	}
	for _, n := range noCounts {
		wrong(0, 0, n)
		wrong(math.MaxInt64, math.MaxInt64, n)
	}
	for _, x := range noTimes {
		for _, n := range counts() {
			wrong(x, 0, n)
			wrong(0, x, n)
			wrong(x, x, n)
		}
	}
}

func sumOf(t *testing.T, n int, a, b, m int64) int64 {
	t.Helper()
	got, e := fsum.Sum(n, wide.Of(a), wide.Of(b), m)
	small, e2 := wide.Int(got)
	if e != api.OK || e2 != api.OK {
		t.Fatalf("Sum(%d, %d, %d, %d): %v %d", n, a, b, m, got, e)
	}
	return small
}

// P6.3: a row is its first part and what is left, is the same gone through backwards, and grows with a and with b.
func TestWhatFollows(t *testing.T) {
	for _, m := range []int64{1, 2, 5, 12, 97, 1_000_003} {
		for _, a := range []int64{-98, -7, -1, 0, 1, 3, 8, 96, 1_000_000} {
			for _, b := range []int64{-1000, -1, 0, 1, 11, 12345} {
				for _, n := range []int{0, 1, 2, 30, api.MaxSegPoints} {
					whole, long := sumOf(t, n, a, b, m), int64(n)
					for _, first := range []int{0, n / 3, n} {
						if whole != sumOf(t, first, a, b, m)+sumOf(t, n-first, a, b+a*int64(first), m) {
							t.Errorf("a %d, b %d, m %d: the parts of %d and %d", a, b, m, first, n-first)
						}
					}
					if n > 0 && whole != sumOf(t, n, -a, b+a*(long-1), m) {
						t.Errorf("a %d, b %d, m %d, n %d: backwards", a, b, m, n)
					}
					if sumOf(t, n, a+m, b, m) != whole+long*(long-1)/2 {
						t.Errorf("a %d, b %d, m %d, n %d: with a greater by m", a, b, m, n)
					}
					if sumOf(t, n, a, b+m, m) != whole+long {
						t.Errorf("a %d, b %d, m %d, n %d: with b greater by m", a, b, m, n)
					}
				}
			}
		}
	}
}

// P6.3: Hermite's, and that of numbers without a common divisor.
func TestWholeTurns(t *testing.T) {
	for m := int64(1); m <= api.MaxSegPoints; m++ {
		for _, b := range []int64{0, 1, m - 1, m, -1, -m, 1 << 50, -1 << 61} {
			if got := sumOf(t, int(m), 1, b, m); got != b {
				t.Errorf("m %d, b %d: %d", m, b, got)
			}
		}
		for a := int64(1); a <= 60; a++ {
			if new(big.Int).GCD(nil, nil, big.NewInt(a), big.NewInt(m)).Int64() != 1 {
				continue
			}
			if got := sumOf(t, int(m), a, 0, m); got != (a-1)*(m-1)/2 {
				t.Errorf("a %d, m %d: %d", a, m, got)
			}
		}
	}
}
