package swing_test

import (
	"math/big"
	"slices"
	"testing"

	"yearbook/api"
	"yearbook/bandrows"
	"yearbook/line"
	"yearbook/swing"
)

const maxBack = int64(api.MaxBack)

func over(n, d int64) api.Slope {
	return api.Slope{N: n, D: d}
}

// goes tells whether the exact value of a line that may be is in each band, in numbers that lose nothing.
func goes(x api.Line, l []api.Band) bool {
	for _, b := range l {
		exact := new(big.Int).Mul(big.NewInt(x.N), big.NewInt(b.T-l[0].T))
		exact.Add(exact, big.NewInt(x.R))
		value := new(big.Rat).SetFrac(exact, big.NewInt(x.D))
		value.Add(value, new(big.Rat).SetInt64(x.A))
		if value.Cmp(new(big.Rat).SetInt64(b.Lo)) < 0 || value.Cmp(new(big.Rat).SetInt64(b.Hi)) > 0 {
			return false
		}
	}
	return true
}

// middle has room: MaxBack twice is an int64 still. What is shifted is rounded down.
func middle(b api.Band) int64 {
	return (b.Lo + b.Hi) >> 1
}

// door goes by the chapter's own words: the greatest of the one, and the least of the other.
func door(l []api.Band) (from, to *big.Rat) {
	h := middle(l[0])
	for _, b := range l[1:] {
		lo, hi := big.NewRat(b.Lo-h, b.T-l[0].T), big.NewRat(b.Hi-h, b.T-l[0].T)
		if from == nil || lo.Cmp(from) > 0 {
			from = lo
		}
		if to == nil || hi.Cmp(to) < 0 {
			to = hi
		}
	}
	return from, to
}

func swings(l []api.Band) bool {
	from, to := door(l)
	return len(l) == 1 || from.Cmp(to) <= 0
}

// fit tells the line by the chapter's own words, of bands that swing.
func fit(l []api.Band) api.Line {
	slope := new(big.Rat)
	if from, to := door(l); len(l) > 1 {
		switch {
		case from.Sign() > 0:
			slope = from
		case to.Sign() < 0:
			slope = to
		}
	}
	return api.Line{A: middle(l[0]), N: slope.Num().Int64(), D: slope.Denom().Int64()}
}

// cut tells parts: each goes on as long as it swings. (That none swings again further on is held below.)
func cut(l []api.Band) [][]api.Band {
	var parts [][]api.Band
	for len(l) > 0 {
		n := 1
		for n < len(l) && swings(l[:n+1]) {
			n++
		}
		parts = append(parts, l[:n])
		l = l[n:]
	}
	return parts
}

func slopeOf(r *big.Rat) api.Slope {
	return over(r.Num().Int64(), r.Denom().Int64())
}

func TestHinge(t *testing.T) {
	// P9.1: rounded down, below 0 too; the other bands say nothing.
	const m = maxBack
	for _, x := range []struct {
		lo, hi, want int64
	}{
		{0, 0, 0}, {0, 1, 0}, {-1, 0, -1}, {-1, 1, 0}, {-3, 0, -2}, {-3, -2, -3}, {2, 5, 3},
		{m, m, m}, {-m, -m, -m}, {m - 1, m, m - 1}, {-m, 1 - m, -m}, {-m, m, 0}, {-m, m - 1, -1}, {0, m, m / 2}, {-m, 0, -m / 2},
	} {
		for _, l := range [][]api.Band{bandrows.Of(0, x.lo, x.hi), bandrows.Of(api.MaxTime, x.lo, x.hi), bandrows.Of(4, x.lo, x.hi, 5, 100, 100, 6, -m, -m)} {
			if v, e := swing.Hinge(l); v != x.want || e != api.OK {
				t.Errorf("Hinge(%v): %d %d, not %d", l, v, e, x.want)
			}
		}
	}
	for _, l := range bandrows.Various() {
		if v, e := swing.Hinge(l); v != middle(l[0]) || e != api.OK {
			t.Fatalf("Hinge(%v): %d %d", l, v, e)
		}
	}
}

func TestDoor(t *testing.T) {
	// P9.1: by the chapter's own words, be it shut; a rational number of the library is in lowest terms.
	shut, open := 0, 0
	for _, l := range bandrows.Various() {
		lo, hi, e := swing.Door(l)
		if len(l) == 1 {
			if lo != over(0, 0) || hi != over(0, 0) || e != api.ErrEmpty {
				t.Fatalf("Door(%v): %v %v %d", l, lo, hi, e)
			}
			continue
		}
		from, to := door(l)
		if lo != slopeOf(from) || hi != slopeOf(to) || e != api.OK {
			t.Fatalf("Door(%v): %v %v %d, not %v %v", l, lo, hi, e, from, to)
		}
		if swings(l) {
			open++
		} else {
			shut++
		}
	}
	if shut < 1000 || open < 1000 {
		t.Errorf("%d doors are shut, and %d are not: too few to tell", shut, open)
	}
}

func TestDoorEdges(t *testing.T) {
	// P9.1
	const m, end = maxBack, int64(api.MaxTime)
	for _, x := range []struct {
		l      []api.Band
		lo, hi api.Slope
	}{
		{bandrows.Of(0, 0, 0, 1, 0, 0), over(0, 1), over(0, 1)},
		{bandrows.Of(0, 0, 0, 6, -4, 4), over(-2, 3), over(2, 3)},
		{bandrows.Of(0, -m, -m, 1, m, m), over(2*m, 1), over(2*m, 1)},
		{bandrows.Of(0, m, m, 1, -m, -m), over(-2*m, 1), over(-2*m, 1)},
		{bandrows.Of(0, -m, m, 1, -m, m), over(-m, 1), over(m, 1)},
		{bandrows.Of(0, 0, 0, end, 1, 1), over(1, end), over(1, end)},
		{bandrows.Of(0, -1, 0, end, 0, 0), over(1, end), over(1, end)},
		{bandrows.Of(end-1, 0, 0, end, -m, m), over(-m, 1), over(m, 1)},
		{bandrows.Of(0, 0, 0, 1, 5, 5, 2, -5, -5), over(5, 1), over(-5, 2)},
		{bandrows.Of(0, 0, 0, 2, 1, 1, 4, 2, 2), over(1, 2), over(1, 2)},
		{bandrows.Of(9, 3, 4, 10, 3, 4), over(0, 1), over(1, 1)},
	} {
		if lo, hi, e := swing.Door(x.l); lo != x.lo || hi != x.hi || e != api.OK {
			t.Errorf("Door(%v): %v %v %d, not %v %v", x.l, lo, hi, e, x.lo, x.hi)
		}
	}
}

func TestThrough(t *testing.T) {
	// P9.2: the exact value counts, not the value; times are counted from the first band on; both ends are in; false of a line that may not be.
	for x := range bandrows.Tries() {
		if got := swing.Through(x.Line, x.Bands); got != x.Through {
			t.Fatalf("Through, %v and %v: %v", x.Line, x.Bands, got)
		}
	}
}

func TestFit(t *testing.T) {
	// P9.3
	none, some := 0, 0
	for _, l := range bandrows.Various() {
		want, wantErr := api.Line{}, api.ErrNone
		none++
		if swings(l) {
			want, wantErr = fit(l), api.OK
			none--
			some++
		}
		if x, e := swing.Fit(l); x != want || e != wantErr {
			t.Fatalf("Fit(%v): %v %d, not %v %d", l, x, e, want, wantErr)
		}
	}
	if none < 1000 || some < 1000 {
		t.Errorf("%d swing, %d do not: too few to tell", some, none)
	}
}

func TestFitEdges(t *testing.T) {
	// P9.3: the slope that is the nearest to 0, in lowest terms; a door that is one slope wide is not shut.
	const m, end = maxBack, int64(api.MaxTime)
	for _, x := range []struct {
		l    []api.Band
		want api.Line
		e    api.Errno
	}{
		{bandrows.Of(0, m, m), api.Line{A: m, D: 1}, api.OK},
		{bandrows.Of(end, -m, -m), api.Line{A: -m, D: 1}, api.OK},
		{bandrows.Of(0, 0, 0, 4, 2, 6), api.Line{N: 1, D: 2}, api.OK},
		{bandrows.Of(0, 0, 0, 4, -6, -2), api.Line{N: -1, D: 2}, api.OK},
		{bandrows.Of(0, 0, 0, 4, -6, 2), api.Line{D: 1}, api.OK},
		{bandrows.Of(0, 0, 0, 4, 0, 6), api.Line{D: 1}, api.OK},
		{bandrows.Of(0, 0, 0, 4, -6, 0), api.Line{D: 1}, api.OK},
		{bandrows.Of(0, 0, 0, 1, 1, 1, 2, 2, 2), api.Line{N: 1, D: 1}, api.OK},
		{bandrows.Of(0, 0, 0, 1, 1, 3, 2, 0, 2), api.Line{N: 1, D: 1}, api.OK},
		{bandrows.Of(0, 0, 0, 2, 1, 3, 3, 0, 1), api.Line{}, api.ErrNone},
		{bandrows.Of(0, 0, 0, 1, 1, 1, 2, 3, 3), api.Line{}, api.ErrNone},
		{bandrows.Of(0, 0, 0, end-1, 1, 1, end, 1, 1), api.Line{}, api.ErrNone},
		{bandrows.Of(0, 0, 0, end-1, 1, 2, end, 1, 1), api.Line{}, api.ErrNone},
		{bandrows.Of(0, 0, 0, end-1, 0, 1, end, 1, 1), api.Line{N: 1, D: end}, api.OK},
		{bandrows.Of(0, -m, -m, 1, m, m), api.Line{A: -m, N: 2 * m, D: 1}, api.OK},
		{bandrows.Of(0, m, m, 1, -m, -m), api.Line{A: m, N: -2 * m, D: 1}, api.OK},
		{bandrows.Of(0, -m, m, 1, m, m), api.Line{N: m, D: 1}, api.OK},
		{bandrows.Of(0, -m, m-1, 1, m, m), api.Line{A: -1, N: m + 1, D: 1}, api.OK},
		{bandrows.Of(0, -m, m-1, 2, m, m), api.Line{A: -1, N: m + 1, D: 2}, api.OK},
		{bandrows.Of(0, -m, -m, 1, m, m, 2, m, m), api.Line{}, api.ErrNone},
	} {
		if got, e := swing.Fit(x.l); got != x.want || e != x.e {
			t.Errorf("Fit(%v): %v %d, not %v %d", x.l, got, e, x.want, x.e)
		}
	}
}

func TestCutAndLines(t *testing.T) {
	// P9.4
	for _, l := range bandrows.Various() {
		var counts []int
		var fits []api.Line
		for _, part := range cut(l) {
			counts = append(counts, len(part))
			fits = append(fits, fit(part))
		}
		if got, e := swing.Cut(l); !slices.Equal(got, counts) || e != api.OK {
			t.Fatalf("Cut(%v): %v %d, not %v", l, got, e, counts)
		}
		if got, e := swing.Lines(l); !slices.Equal(got, fits) || e != api.OK {
			t.Fatalf("Lines(%v): %v %d, not %v", l, got, e, fits)
		}
	}
}

func TestCutOfMany(t *testing.T) {
	// P9.4: 256 bands that are one part, that are two each, and of which the last one, or the first one, is for itself.
	var straight, steps []api.Band
	for i := range int64(256) {
		straight = append(straight, api.Band{T: 3 * i, Lo: 7 * i, Hi: 7 * i})
		steps = append(steps, api.Band{T: i, Lo: i * i, Hi: i * i})
	}
	last := slices.Clone(straight)
	last[255].Lo, last[255].Hi = 0, 1
	first := slices.Clone(straight)
	first[0].Lo, first[0].Hi = 100, 100
	for _, x := range []struct {
		l      []api.Band
		counts []int
	}{
		{straight, []int{256}},
		{straight[:255], []int{255}},
		{steps, slices.Repeat([]int{2}, 128)},
		{steps[:255], append(slices.Repeat([]int{2}, 127), 1)},
		{last, []int{255, 1}},
		{first, []int{2, 254}},
	} {
		if got, e := swing.Cut(x.l); !slices.Equal(got, x.counts) || e != api.OK {
			t.Errorf("Cut: %v %d, not %v", got, e, x.counts)
		}
		if got, e := swing.Lines(x.l); len(got) != len(x.counts) || e != api.OK {
			t.Errorf("Lines: %v %d", got, e)
		}
	}
}

func TestFittedGoesThrough(t *testing.T) {
	// P9.5: what is fitted goes through its bands, and its values are in them; so of each part.
	for _, l := range bandrows.Various() {
		counts, _ := swing.Cut(l)
		fits, _ := swing.Lines(l)
		from := 0
		for i, n := range counts {
			part := l[from : from+n]
			if alone, e := swing.Fit(part); alone != fits[i] || e != api.OK {
				t.Fatalf("Fit(%v): %v %d, and of the whole %v", part, alone, e, fits[i])
			}
			if !goes(fits[i], part) || !swing.Through(fits[i], part) {
				t.Fatalf("%v does not go through %v", fits[i], part)
			}
			for _, b := range part {
				if v, e := line.At(fits[i], b.T-part[0].T); e != api.OK || v < b.Lo || v > b.Hi {
					t.Fatalf("%v at %d: %d %d, not in %v", fits[i], b.T-part[0].T, v, e, b)
				}
			}
			from += n
		}
		if from != len(l) {
			t.Fatalf("Cut(%v): %v is not all", l, counts)
		}
	}
}

func TestNoneIsFlatter(t *testing.T) {
	// P9.5: if any line from the hinge goes through, there is one that is fitted, and none is nearer to 0.
	for _, l := range bandrows.Few() {
		x, e := swing.Fit(l)
		for d := int64(1); d <= 4; d++ {
			for n := int64(-20); n <= 20; n++ {
				other, wrong := line.Of(middle(l[0]), over(n, d))
				if wrong != api.OK || !goes(other, l) {
					continue
				}
				if e != api.OK {
					t.Fatalf("Fit(%v): %d, though %v goes through", l, e, other)
				}
				if max(x.N, -x.N)*other.D > max(other.N, -other.N)*x.D {
					t.Fatalf("Fit(%v): %v, though %v goes through", l, x, other)
				}
			}
		}
	}
}

func TestFirstOnesSwing(t *testing.T) {
	// P9.5: the first bands of such as swing swing.
	for _, l := range bandrows.Various() {
		counts, _ := swing.Cut(l)
		for n := 1; n <= counts[0]; n++ {
			if x, e := swing.Fit(l[:n]); e != api.OK || !goes(x, l[:n]) {
				t.Fatalf("Fit(%v): %v %d, though those of more swing", l[:n], x, e)
			}
		}
		for n := counts[0] + 1; n <= len(l); n++ {
			if _, e := swing.Fit(l[:n]); e != api.ErrNone {
				t.Fatalf("Fit(%v): %d, though Cut has fewer in its part", l[:n], e)
			}
		}
	}
}

func TestNoBands(t *testing.T) {
	// P9.1 to P9.4: ErrBands goes ahead of all else, and nothing is told besides.
	for _, l := range bandrows.Wrong() {
		if v, e := swing.Hinge(l); v != 0 || e != api.ErrBands {
			t.Errorf("Hinge(%v): %d %d", l, v, e)
		}
		if lo, hi, e := swing.Door(l); lo != over(0, 0) || hi != over(0, 0) || e != api.ErrBands {
			t.Errorf("Door(%v): %v %v %d", l, lo, hi, e)
		}
		if swing.Through(api.Line{D: 1}, l) || swing.Through(api.Line{}, l) {
			t.Errorf("Through(0, %v)", l)
		}
		if x, e := swing.Fit(l); x != (api.Line{}) || e != api.ErrBands {
			t.Errorf("Fit(%v): %v %d", l, x, e)
		}
		if n, e := swing.Cut(l); n != nil || e != api.ErrBands {
			t.Errorf("Cut(%v): %v %d", l, n, e)
		}
		if x, e := swing.Lines(l); x != nil || e != api.ErrBands {
			t.Errorf("Lines(%v): %v %d", l, x, e)
		}
	}
}

func TestNothingIsShared(t *testing.T) {
	// R3: what is handed in stays as it is, the room behind it, too, and what is answered is new memory.
	room := bandrows.Of(0, 0, 0, 1, 2, 2, 2, 3, 3, 3, 4, 4, 9, 9, 1, -1, 3, 3)
	before := slices.Clone(room)
	for n := range 5 {
		l := room[:n]
		swing.Hinge(l)
		swing.Door(l)
		swing.Fit(l)
		swing.Through(api.Line{D: 1}, l)
		counts, _ := swing.Cut(l)
		fits, _ := swing.Lines(l)
		wantCounts, wantFits := slices.Clone(counts), slices.Clone(fits)
		for i := range counts[:cap(counts)] {
			counts[:cap(counts)][i] = -9
		}
		for i := range fits[:cap(fits)] {
			fits[:cap(fits)][i] = api.Line{A: -9}
		}
		if again, _ := swing.Cut(l); !slices.Equal(again, wantCounts) {
			t.Errorf("Cut, asked again: %v, not %v", again, wantCounts)
		}
		if again, _ := swing.Lines(l); !slices.Equal(again, wantFits) {
			t.Errorf("Lines, asked again: %v, not %v", again, wantFits)
		}
	}
	if !slices.Equal(room, before) {
		t.Errorf("what was handed in: %v", room)
	}
}

func TestExamples(t *testing.T) {
	// The chapter's examples.
	l := bandrows.Of(0, -1, 1, 2, 3, 5, 4, 5, 9)
	if v, e := swing.Hinge(l); v != 0 || e != api.OK {
		t.Errorf("Hinge: %d %d", v, e)
	}
	if lo, hi, e := swing.Door(l); lo != over(3, 2) || hi != over(9, 4) || e != api.OK {
		t.Errorf("Door: %v %v %d", lo, hi, e)
	}
	if x, e := swing.Fit(l); x != (api.Line{N: 3, D: 2}) || e != api.OK {
		t.Errorf("Fit: %v %d", x, e)
	}
	l = bandrows.Of(0, 0, 0, 1, -5, 5, 9, -1, 4)
	if lo, hi, e := swing.Door(l); lo != over(-1, 9) || hi != over(4, 9) || e != api.OK {
		t.Errorf("Door: %v %v %d", lo, hi, e)
	}
	if x, e := swing.Fit(l); x != (api.Line{D: 1}) || e != api.OK {
		t.Errorf("Fit: %v %d", x, e)
	}
	l = bandrows.Of(0, 0, 0, 1, 2, 2, 2, 3, 3, 3, 4, 4)
	if lo, hi, e := swing.Door(l); lo != over(2, 1) || hi != over(4, 3) || e != api.OK {
		t.Errorf("Door: %v %v %d", lo, hi, e)
	}
	if n, e := swing.Cut(l); !slices.Equal(n, []int{2, 2}) || e != api.OK {
		t.Errorf("Cut: %v %d", n, e)
	}
	if x, e := swing.Lines(l); !slices.Equal(x, []api.Line{{N: 2, D: 1}, {A: 3, N: 1, D: 1}}) || e != api.OK {
		t.Errorf("Lines: %v %d", x, e)
	}
	l = bandrows.Of(5, -3, 0)
	if v, e := swing.Hinge(l); v != -2 || e != api.OK {
		t.Errorf("Hinge: %d %d", v, e)
	}
	if _, _, e := swing.Door(l); e != api.ErrEmpty {
		t.Errorf("Door: %d", e)
	}
	if x, e := swing.Fit(l); x != (api.Line{A: -2, D: 1}) || e != api.OK {
		t.Errorf("Fit: %v %d", x, e)
	}
}
