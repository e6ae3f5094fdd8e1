package pmc_test

import (
	"math"
	"slices"
	"testing"

	"yearbook/api"
	"yearbook/bandrows"
	"yearbook/pmc"
)

// at tells bands at the times 0, 1, 2 and so on: two ends each.
func at(ends ...int64) []api.Band {
	var l []api.Band
	for i := 0; i+1 < len(ends); i += 2 {
		l = append(l, api.Band{T: int64(i / 2), Lo: ends[i], Hi: ends[i+1]})
	}
	return l
}

// smallRows tells all rows of up to three bands, and those of four, and of six, that are smaller.
func smallRows() [][]api.Band {
	var l [][]api.Band
	times := []int64{0, 3, 6, 9, 12, 15}
	for n, most := range []int64{1: 3, 2: 3, 3: 2, 4: 1} {
		if n > 0 {
			l = append(l, bandrows.All(times[:n], bandrows.Spans(most))...)
		}
	}
	return append(l, bandrows.All(times, []api.Span{{Lo: 0, Hi: 0}, {Lo: 0, Hi: 1}, {Lo: 1, Hi: 1}, {Lo: 1, Hi: 2}})...)
}

// longRows tells rows of many bands that wander, faster or slower, about 0 and about the ends of what may be told.
func longRows() [][]api.Band {
	var l [][]api.Band
	below := bandrows.Below(1)
	for _, n := range []int{17, 100, 255, 256} {
		for _, width := range []int64{1, 2, 10, 40} {
			for _, middle := range []int64{0, api.MaxBack - 300, 300 - api.MaxBack} {
				var row []api.Band
				for i := range n {
					lo := middle + below(20) - 10
					row = append(row, api.Band{T: int64(i*i+2*i) + below(2), Lo: lo, Hi: lo + below(width)})
				}
				l = append(l, row)
			}
		}
	}
	return l
}

// goes says whether a constant goes through bands, in the chapter's own words.
func goes(l []api.Band, v int64) bool {
	for _, b := range l {
		if v < b.Lo || v > b.Hi {
			return false
		}
	}
	return true
}

// through tells the least and the greatest of all constants that go through bands, one constant after another; false, if there is none. (All are in the first band.)
func through(l []api.Band) (api.Span, bool) {
	var s api.Span
	some := false
	for v := l[0].Lo; v <= l[0].Hi; v++ {
		if !goes(l, v) {
			continue
		}
		if !some {
			s.Lo = v
		}
		s.Hi, some = v, true
	}
	return s, some
}

// longest goes by the chapter's own words.
func longest(l []api.Band) int {
	for n := len(l); n > 1; n-- {
		if _, some := through(l[:n]); some {
			return n
		}
	}
	return 1
}

func cut(l []api.Band) []int {
	var counts []int
	for len(l) > 0 {
		n := longest(l)
		counts = append(counts, n)
		l = l[n:]
	}
	return counts
}

// fewest tells how few parts there are in any way to cut bands, through each of which a constant goes: place by place, over all parts that may end there.
func fewest(l []api.Band) int {
	upTo := make([]int, len(l)+1)
	for j := 1; j <= len(l); j++ {
		upTo[j] = math.MaxInt
		for i := range j {
			if _, some := through(l[i:j]); some {
				upTo[j] = min(upTo[j], upTo[i]+1)
			}
		}
	}
	return upTo[len(l)]
}

// middle has room: MaxBack twice is an int64 still. What is shifted is rounded down.
func middle(s api.Span) int64 {
	return (s.Lo + s.Hi) >> 1
}

// holdAll asks all calls of bands that may be.
func holdAll(t *testing.T, l []api.Band, want []int) {
	t.Helper()
	if e := pmc.Check(l); e != api.OK {
		t.Fatalf("Check(%v): %d", l, e)
	}
	if counts, e := pmc.Cut(l); e != api.OK || !slices.Equal(counts, want) {
		t.Fatalf("Cut(%v): %v %d, not %v", l, counts, e, want)
	}
	if n, e := pmc.Longest(l); e != api.OK || n != want[0] {
		t.Fatalf("Longest(%v): %d %d, not %d", l, n, e, want[0])
	}
	wantSpan, some := through(l)
	wantErr, wantFit := api.OK, middle(wantSpan)
	if !some {
		wantErr, wantFit = api.ErrFit, 0
	}
	if s, e := pmc.Common(l); s != wantSpan || e != wantErr {
		t.Fatalf("Common(%v): %v %d, not %v %d", l, s, e, wantSpan, wantErr)
	}
	if v, e := pmc.Fit(l); v != wantFit || e != wantErr {
		t.Fatalf("Fit(%v): %d %d, not %d %d", l, v, e, wantFit, wantErr)
	}
}

func TestCheck(t *testing.T) {
	// P8.1
	may := [][]api.Band{
		at(0, 0),
		at(-api.MaxBack, api.MaxBack),
		at(api.MaxBack, api.MaxBack),
		at(-api.MaxBack, -api.MaxBack),
		at(-api.MaxBack, -api.MaxBack, api.MaxBack, api.MaxBack),
		at(1, 2, 3, 4),
		{{T: 0}},
		{{T: api.MaxTime}},
		{{T: 0}, {T: api.MaxTime}},
		{{T: api.MaxTime - 1}, {T: api.MaxTime}},
		{{T: 7, Lo: 9, Hi: 9}, {T: 8, Lo: -9, Hi: -9}},
		bandrows.Same(255, 0, 5),
		bandrows.Same(256, 0, 5),
		bandrows.Same(300, 0, 5)[44:],
	}
	for _, l := range may {
		if e := pmc.Check(l); e != api.OK {
			t.Errorf("Check(%v): %d", l, e)
		}
	}
	for _, l := range bandrows.Wrong() {
		if e := pmc.Check(l); e != api.ErrBands {
			t.Errorf("Check(%v): %d", l, e)
		}
	}
}

func TestCheckAtEachPlace(t *testing.T) {
	// P8.1: one band that is wrong, wherever it is.
	for _, n := range []int{1, 2, 3, 256} {
		for i := range n {
			for _, wrong := range []api.Band{{T: int64(10 * i), Lo: 1}, {T: int64(10 * i), Hi: api.MaxBack + 1}, {T: int64(10 * i), Lo: -api.MaxBack - 1}, {T: -1}, {T: api.MaxTime + 1}} {
				var l []api.Band
				for j := range n {
					l = append(l, api.Band{T: int64(10 * j), Lo: -2, Hi: 2})
				}
				l[i] = wrong
				if e := pmc.Check(l); e != api.ErrBands {
					t.Fatalf("Check of %d bands, %v at %d: %d", n, wrong, i, e)
				}
			}
		}
	}
}

func TestNoBands(t *testing.T) {
	// P8.1 to P8.3: of bands that may not be ErrBands goes ahead of ErrFit, and nothing is told besides.
	for _, l := range bandrows.Wrong() {
		for _, x := range [][]api.Band{l, append(slices.Clone(l), l...)} {
			if s, e := pmc.Common(x); s != (api.Span{}) || e != api.ErrBands {
				t.Errorf("Common(%v): %v %d", x, s, e)
			}
			if v, e := pmc.Fit(x); v != 0 || e != api.ErrBands {
				t.Errorf("Fit(%v): %d %d", x, v, e)
			}
			if n, e := pmc.Longest(x); n != 0 || e != api.ErrBands {
				t.Errorf("Longest(%v): %d %d", x, n, e)
			}
			if counts, e := pmc.Cut(x); counts != nil || e != api.ErrBands {
				t.Errorf("Cut(%v): %v %d", x, counts, e)
			}
		}
	}
}

func TestSmallRows(t *testing.T) {
	// P8.2, P8.3: all small rows, by the chapter's own words.
	for _, l := range smallRows() {
		holdAll(t, l, cut(l))
	}
}

func TestLongRows(t *testing.T) {
	// P8.2, P8.3
	for _, l := range longRows() {
		holdAll(t, l, cut(l))
	}
	for _, n := range []int{1, 2, 255, 256} {
		holdAll(t, bandrows.Same(n, -3, 3), []int{n})
		// The last one alone lies elsewhere.
		l := append(bandrows.Same(n, -3, 3), api.Band{T: 1000, Lo: 4, Hi: 4})[max(0, n-255):]
		holdAll(t, l, []int{len(l) - 1, 1})
		var apart []api.Band
		for i := range n {
			apart = append(apart, api.Band{T: int64(i), Lo: int64(i % 2), Hi: int64(i % 2)})
		}
		holdAll(t, apart, slices.Repeat([]int{1}, n))
	}
}

func TestFitEdges(t *testing.T) {
	// P8.2: the middle is rounded down, below 0 too, and what is far from 0 has room.
	const m = int64(api.MaxBack)
	for _, x := range []struct {
		l      []api.Band
		common api.Span
		fit    int64
		e      api.Errno
	}{
		{at(-m, m), api.Span{Lo: -m, Hi: m}, 0, api.OK},
		{at(-m, m-1), api.Span{Lo: -m, Hi: m - 1}, -1, api.OK},
		{at(1-m, m), api.Span{Lo: 1 - m, Hi: m}, 0, api.OK},
		{at(m-1, m), api.Span{Lo: m - 1, Hi: m}, m - 1, api.OK},
		{at(-m, 1-m), api.Span{Lo: -m, Hi: 1 - m}, -m, api.OK},
		{at(m, m), api.Span{Lo: m, Hi: m}, m, api.OK},
		{at(-m, -m), api.Span{Lo: -m, Hi: -m}, -m, api.OK},
		{at(0, m), api.Span{Hi: m}, m / 2, api.OK},
		{at(-m, 0), api.Span{Lo: -m}, -m / 2, api.OK},
		{at(-m, m, m, m), api.Span{Lo: m, Hi: m}, m, api.OK},
		{at(-m, m, -m, -m), api.Span{Lo: -m, Hi: -m}, -m, api.OK},
		{at(m, m, -m, m), api.Span{Lo: m, Hi: m}, m, api.OK},
		{at(-m, 0, 0, m), api.Span{}, 0, api.OK},
		{at(0, m, -m, 0), api.Span{}, 0, api.OK},
		{at(-m, -1, 0, m), api.Span{}, 0, api.ErrFit},
		{at(0, m, -m, -1), api.Span{}, 0, api.ErrFit},
		{at(m, m, -m, -m), api.Span{}, 0, api.ErrFit},
		{at(-m, -m, m, m), api.Span{}, 0, api.ErrFit},
		{at(m-3, m, m-5, m-2), api.Span{Lo: m - 3, Hi: m - 2}, m - 3, api.OK},
		{at(-m, 3-m, 2-m, 9-m), api.Span{Lo: 2 - m, Hi: 3 - m}, 2 - m, api.OK},
	} {
		if s, e := pmc.Common(x.l); s != x.common || e != x.e {
			t.Errorf("Common(%v): %v %d, not %v %d", x.l, s, e, x.common, x.e)
		}
		if v, e := pmc.Fit(x.l); v != x.fit || e != x.e {
			t.Errorf("Fit(%v): %d %d, not %d %d", x.l, v, e, x.fit, x.e)
		}
	}
}

func TestEachTwo(t *testing.T) {
	// P8.4: a constant goes through all just if one goes through each two.
	for _, l := range smallRows() {
		each := true
		for i := range l {
			for _, b := range l[i+1:] {
				_, e := pmc.Common([]api.Band{l[i], b})
				each = each && e == api.OK
			}
		}
		if _, e := pmc.Common(l); e == api.OK != each {
			t.Fatalf("Common(%v): %d; of each two: %v", l, e, each)
		}
	}
}

// holdParts holds that through each part a constant goes, that together they are all, and that no other way has fewer.
func holdParts(t *testing.T, l []api.Band) {
	t.Helper()
	counts, _ := pmc.Cut(l)
	from := 0
	for _, n := range counts {
		if n < 1 || from+n > len(l) {
			t.Fatalf("Cut(%v): %v", l, counts)
		}
		part := l[from : from+n]
		if v, e := pmc.Fit(part); e != api.OK || !goes(part, v) {
			t.Fatalf("Fit of a part, %v: %d %d", part, v, e)
		}
		from += n
	}
	if from != len(l) {
		t.Fatalf("Cut(%v): %v is not all", l, counts)
	}
	if n := fewest(l); len(counts) != n {
		t.Fatalf("Cut(%v): %d parts, and there is a way with %d", l, len(counts), n)
	}
}

func TestFewest(t *testing.T) {
	// P8.4
	for _, l := range smallRows() {
		holdParts(t, l)
	}
	for _, l := range longRows() {
		holdParts(t, l)
	}
}

func TestNarrower(t *testing.T) {
	// P8.4: narrower bands have no fewer parts.
	for _, l := range bandrows.All([]int64{0, 3, 6}, bandrows.Spans(1)) {
		before, _ := pmc.Cut(l)
		for _, narrow := range bandrows.All([]int64{0, 3, 6}, bandrows.Spans(1)) {
			inside := true
			for i, b := range narrow {
				inside = inside && l[i].Lo <= b.Lo && b.Hi <= l[i].Hi
			}
			if after, _ := pmc.Cut(narrow); inside && len(after) < len(before) {
				t.Fatalf("Cut(%v): %v, and of the narrower %v: %v", l, before, narrow, after)
			}
		}
	}
	for _, l := range longRows() {
		before, _ := pmc.Cut(l)
		narrow := slices.Clone(l)
		for i := range narrow {
			narrow[i].Lo = (l[i].Hi-l[i].Lo)/3 + l[i].Lo
		}
		if after, _ := pmc.Cut(narrow); len(after) < len(before) {
			t.Fatalf("Cut(%v): %v, and narrower: %v", l, before, after)
		}
	}
}

func TestOneBehindTheOther(t *testing.T) {
	// P8.4: bands behind others have no fewer parts than these, and no more than both by themselves.
	for _, l := range append(smallRows(), longRows()...) {
		both, _ := pmc.Cut(l)
		for i := 1; i < len(l); i++ {
			ahead, _ := pmc.Cut(l[:i])
			behind, _ := pmc.Cut(l[i:])
			if len(both) < len(ahead) || len(both) < len(behind) || len(both) > len(ahead)+len(behind) {
				t.Fatalf("Cut(%v): %v, and cut at %d: %v and %v", l, both, i, ahead, behind)
			}
		}
	}
}

func TestNothingIsShared(t *testing.T) {
	// R3: what is handed in stays as it is, the room behind it, too, and what is answered is new memory.
	room := append(at(1, 3, 2, 5, 4, 6, 5, 9, 0, 0), api.Band{T: 9, Lo: 0, Hi: 9}, api.Band{T: -1, Lo: 1})
	before := slices.Clone(room)
	for n := range 6 {
		l := room[:n]
		pmc.Check(l)
		pmc.Common(l)
		pmc.Fit(l)
		pmc.Longest(l)
		counts, _ := pmc.Cut(l)
		kept := slices.Clone(counts)
		for i := range counts[:cap(counts)] {
			counts[:cap(counts)][i] = -9
		}
		if again, _ := pmc.Cut(l); !slices.Equal(again, kept) {
			t.Errorf("Cut, asked again: %v, not %v", again, kept)
		}
	}
	if !slices.Equal(room, before) {
		t.Errorf("what was handed in: %v", room)
	}
}

func TestExamples(t *testing.T) {
	// The chapter's examples.
	if s, e := pmc.Common(at(1, 5, 3, 9, 4, 4)); s != (api.Span{Lo: 4, Hi: 4}) || e != api.OK {
		t.Errorf("Common: %v %d", s, e)
	}
	for _, x := range []struct {
		l []api.Band
		v int64
		e api.Errno
	}{
		{at(1, 5, 2, 9), 3, api.OK},
		{at(-2, -1), -2, api.OK},
		{at(1, 2, 3, 4), 0, api.ErrFit},
	} {
		if v, e := pmc.Fit(x.l); v != x.v || e != x.e {
			t.Errorf("Fit(%v): %d %d", x.l, v, e)
		}
	}
	l := at(1, 3, 2, 5, 4, 6, 5, 9, 0, 0)
	if counts, e := pmc.Cut(l); !slices.Equal(counts, []int{2, 2, 1}) || e != api.OK {
		t.Errorf("Cut: %v %d", counts, e)
	}
	if n, e := pmc.Longest(l); n != 2 || e != api.OK {
		t.Errorf("Longest: %d %d", n, e)
	}
}
