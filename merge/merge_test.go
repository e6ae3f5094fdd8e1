package merge_test

import (
	"math"
	"slices"
	"testing"

	"yearbook/api"
	"yearbook/bandrows"
	"yearbook/merge"
	"yearbook/pmc"
	"yearbook/runs"
	"yearbook/seg"
	"yearbook/segcode"
	"yearbook/segrows"
	"yearbook/slide"
	"yearbook/swing"
	"yearbook/window"
)

const (
	maxBack = int64(api.MaxBack)
	maxTime = int64(api.MaxTime)
)

// lined tells a segment of the times, with a line.
func lined(far int64, x api.Line, times ...int64) api.Seg {
	return api.Seg{Kind: seg.Kind(x), Runs: runsOf(times), Line: x, Err: far}
}

// flat tells a constant at n times from from on.
func flat(from, v, far int64, n int) api.Seg {
	return lined(far, api.Line{A: v, D: 1}, even(from, n)...)
}

// raw tells a segment of the times, with as many of the values.
func raw(far int64, times []int64, values ...int64) api.Seg {
	return api.Seg{Kind: api.SegRaw, Runs: runsOf(times), Raw: values[:len(times):len(times)], Err: far}
}

func even(from int64, n int) []int64 {
	var times []int64
	for i := range int64(n) {
		times = append(times, from+i)
	}
	return times
}

func runsOf(times []int64) []api.Run {
	l, _ := runs.Of(times)
	return l
}

func timesOf(l ...api.Seg) []int64 {
	var all []int64
	for _, s := range l {
		times, _ := runs.Times(s.Runs)
		all = append(all, times...)
	}
	return all
}

func valuesOf(l ...api.Seg) []int64 {
	var all []int64
	for _, s := range l {
		points, _ := seg.Points(s)
		for _, p := range points {
			all = append(all, p.V)
		}
	}
	return all
}

func bytesOf(l ...api.Seg) int {
	n := 0
	for _, s := range l {
		b, _ := segcode.Encode(s)
		n += len(b)
	}
	return n
}

// bandsOf tells a segment's bands by the chapter's words.
func bandsOf(s api.Seg, eps int64) []api.Band {
	var l []api.Band
	values, left := valuesOf(s), eps-s.Err
	for i, t := range timesOf(s) {
		b := api.Band{T: t, Lo: values[i] - left, Hi: values[i] + left}
		if b.Lo < -maxBack {
			b.Lo = -maxBack
		}
		if b.Hi > maxBack {
			b.Hi = maxBack
		}
		l = append(l, b)
	}
	return l
}

// lineIn tells a way's line through bands, if there is one.
func lineIn(way int, l []api.Band) (api.Line, bool) {
	x, e := api.Line{}, api.OK
	switch way {
	case api.WayFlat:
		x.D = 1
		x.A, e = pmc.Fit(l)
	case api.WayTilt:
		x, e = swing.Fit(l)
	case api.WayFree:
		x, e = slide.Fit(l)
	}
	return x, e == api.OK
}

// inWay tells what comes of both in a way by the chapter's words, by the layers below, which are held by themselves; and whether the way goes through.
func inWay(a, b api.Seg, eps int64, way int) (api.Seg, bool) {
	x, is := lineIn(way, slices.Concat(bandsOf(a, eps), bandsOf(b, eps)))
	if !is {
		return api.Seg{}, false
	}
	old := valuesOf(a, b)
	s := api.Seg{Kind: api.SegRaw, Runs: runsOf(timesOf(a, b)), Raw: old}
	if way != api.WayRaw {
		s = api.Seg{Kind: seg.Kind(x), Runs: s.Runs, Line: x}
	}
	for i, v := range valuesOf(s) {
		own := a.Err
		if i >= seg.Count(a) {
			own = b.Err
		}
		s.Err = max(s.Err, v-old[i]+own, old[i]-v+own)
	}
	return s, true
}

// wanted is what comes of two, and of which way it is: 0, if nothing comes. Of all ways it has the sizes; 0, if one does not go through.
type wanted struct {
	s     api.Seg
	way   int
	sizes [5]int
}

func want(a, b api.Seg, eps int64) wanted {
	var w wanted
	if len(timesOf(a, b)) > 256 {
		return w
	}
	least := bytesOf(a, b) + 1
	for way := api.WayFlat; way <= api.WayRaw; way++ {
		s, is := inWay(a, b, eps, way)
		if !is {
			continue
		}
		w.sizes[way] = bytesOf(s)
		if w.sizes[way] < least {
			w.s, w.way, least = s, way, w.sizes[way]
		}
	}
	return w
}

func bounds() []int64 {
	return []int64{0, 1, 2, 4, 130, api.MaxEps}
}

func wrongBounds() []int64 {
	return []int64{-1, -api.MaxEps, math.MinInt64, api.MaxEps + 1, maxBack, math.MaxInt64}
}

// isBound tells whether a bound may be, and no Err is above it.
func isBound(eps int64, l ...api.Seg) bool {
	for _, s := range l {
		if s.Err > eps {
			return false
		}
	}
	return eps >= 0 && eps <= api.MaxEps
}

// small tells small segments of each Kind, whose first time is from.
func small(from int64) []api.Seg {
	var l []api.Seg
	for _, times := range [][]int64{{from}, {from, from + 1}, {from, from + 2, from + 3}, {from, from + 3, from + 6, from + 9, from + 12}} {
		for _, far := range []int64{0, 1, 4} {
			for _, x := range []api.Line{{A: -1, D: 1}, {A: 3, D: 1}, {A: 127, D: 1}, {A: 1000, D: 1}, {N: 1, D: 1}, {A: 2, N: -3, D: 2}, {A: 1, R: 1, N: 1, D: 3}} {
				l = append(l, lined(far, x, times...))
			}
			for _, values := range [][]int64{{0, 1, 2, 3, 4}, {7, 0, 7, 0, 7}, {-64, -64, 100, 100, 90}} {
				l = append(l, raw(far, times, values...))
			}
		}
	}
	return l
}

// wandering tells rows of segments that follow one another, of many times, about 0 and about the ends of what may be told.
func wandering() [][]api.Seg {
	var l [][]api.Seg
	below := bandrows.Below(17)
	for _, n := range []int64{1, 3, 40, 129} {
		for _, middle := range []int64{0, maxBack - 9000, 9000 - maxBack} {
			for _, wander := range []int64{1, 4, 300} {
				for _, climb := range []int64{0, 2, -5} {
					var row []api.Seg
					at := below(9)
					for range 9 {
						var times []int64
						for range 1 + below(n) {
							times = append(times, at)
							at += 1 + below(2)
						}
						row = append(row, one(times, middle+climb*at/4, wander, below))
					}
					l = append(l, row)
				}
			}
		}
	}
	return l
}

// one tells a segment of the times, of this Kind or that.
func one(times []int64, middle, wander int64, below func(n int64) int64) api.Seg {
	a, far := middle+below(wander), below(4)
	switch below(5) {
	case 0, 1:
		return lined(far, api.Line{A: a, D: 1}, times...)
	case 2:
		return lined(far, api.Line{A: a, N: 1 - 2*below(2), D: 2}, times...)
	case 3:
		return lined(far, api.Line{A: a, R: 1, N: 2, D: 5}, times...)
	}
	var values []int64
	for range times {
		values = append(values, middle+below(wander))
	}
	return raw(far, times, values...)
}

// distant tells two rows of segments, the one behind the other, that are as far from one another, in times and in values, as they may be.
func distant() ([]api.Seg, []api.Seg) {
	var ahead, behind []api.Seg
	for _, v := range []int64{-maxBack, 1 - maxBack, -api.MaxValue, -1, 0, api.MaxValue, maxBack - 1, maxBack} {
		for _, far := range []int64{0, 1, api.MaxEps} {
			ahead = append(ahead, flat(0, v, far, 1), flat(0, v, far, 3), raw(far, []int64{1, 5}, v, 0), raw(far, even(3, 2), v/3, v))
			behind = append(behind, flat(maxTime, v, far, 1), flat(9, v, far, 3), raw(far, []int64{7, maxTime}, v, -v))
		}
	}
	ahead = append(ahead, lined(0, api.Line{A: -maxBack, N: 2 * maxBack, D: 1}, 0, 1), lined(1, api.Line{A: maxBack, R: 1, N: -1, D: maxTime}, 5, maxTime/2))
	return ahead, append(behind, lined(0, api.Line{A: maxBack, N: -2 * maxBack, D: 1}, maxTime-1, maxTime), lined(3, api.Line{N: 1, D: 2}, maxTime-4, maxTime))
}

// twos tells two segments, the one behind the other.
func twos() [][2]api.Seg {
	var l [][2]api.Seg
	every := func(ahead, behind []api.Seg) {
		for _, a := range ahead {
			for _, b := range behind {
				if timesOf(b)[0] > timesOf(a)[seg.Count(a)-1] {
					l = append(l, [2]api.Seg{a, b})
				}
			}
		}
	}
	every(small(0), small(13))
	for from := int64(2); from <= 4; from++ {
		every(small(0)[:30], small(from)[30:60])
	}
	every(distant())
	for _, row := range wandering() {
		for i, b := range row[1:] {
			l = append(l, [2]api.Seg{row[i], b})
		}
	}
	return l
}

func TestCheck(t *testing.T) {
	// P14.1: a row of none may be, and one of segments each of which may be, and begins behind the one ahead of it.
	for _, l := range append(wandering(), nil, []api.Seg{}) {
		if e := merge.Check(l); e != api.OK {
			t.Errorf("Check(%v): %d", l, e)
		}
	}
	for _, s := range segrows.All() {
		if e := merge.Check([]api.Seg{s}); e != api.OK {
			t.Fatalf("Check(%v): %d", s, e)
		}
	}
	for _, two := range twos() {
		if e := merge.Check(two[:]); e != api.OK {
			t.Fatalf("Check(%v): %d", two, e)
		}
		if e := merge.Check([]api.Seg{two[1], two[0]}); e != api.ErrRow {
			t.Fatalf("Check(%v, turned round): %d", two, e)
		}
	}
	for _, l := range wrongRows() {
		if e := merge.Check(l); e != api.ErrRow {
			t.Errorf("Check(%v): %d", l, e)
		}
	}
}

// wrongRows tells rows that may not be: one is wrong by itself, or not behind the one ahead of it.
func wrongRows() [][]api.Seg {
	a, b, c := flat(0, 5, 1, 3), flat(3, 7, 0, 2), flat(6, 7, 0, 1)
	l := [][]api.Seg{
		{b, a}, {a, a}, {a, b, b}, {a, c, b}, {b, c, a}, {a, b, c, a},
		{a, flat(2, 7, 0, 2)}, {a, flat(1, 7, 0, 1)}, {a, b, flat(4, 1, 0, 9)}, {flat(maxTime, 0, 0, 1), flat(0, 0, 0, 1)},
		{lined(0, api.Line{D: 1}, 0, 9), b}, {raw(0, []int64{0, 1, 3}, 1, 2, 3), b},
	}
	for _, s := range segrows.Wrong() {
		l = append(l, []api.Seg{s}, []api.Seg{s, s}, []api.Seg{s, flat(20, 0, 0, 1)}, []api.Seg{flat(0, 0, 0, 1), s}, []api.Seg{flat(0, 0, 0, 1), s, flat(20, 0, 0, 1)})
	}
	return l
}

func TestBands(t *testing.T) {
	// P14.1: around each value what is left of the bound, no further than what may be told.
	cut := [2]int{}
	for _, s := range slices.Concat(segrows.All(), small(0), slices.Concat(wandering()...)) {
		for _, eps := range append(bounds(), s.Err, min(s.Err+1, api.MaxEps), s.Err-1) {
			l, e := merge.Bands(s, eps)
			if eps < s.Err {
				if len(l) > 0 || e != api.ErrEps {
					t.Fatalf("Bands(%v, %d): %v %d", s, eps, l, e)
				}
				continue
			}
			if !slices.Equal(l, bandsOf(s, eps)) || e != api.OK || pmc.Check(l) != api.OK {
				t.Fatalf("Bands(%v, %d): %v %d", s, eps, l, e)
			}
			for i, v := range valuesOf(s) {
				if l[i].Lo > v-(eps-s.Err) {
					cut[0]++
				}
				if l[i].Hi < v+(eps-s.Err) {
					cut[1]++
				}
			}
		}
	}
	if min(cut[0], cut[1]) < 50 {
		t.Errorf("bands are cut off %v times: too few to tell", cut)
	}
}

func TestWrongBands(t *testing.T) {
	// P14.1: ErrSeg ahead of ErrEps; beside them nothing.
	for _, s := range segrows.Wrong() {
		for _, eps := range append(wrongBounds(), 0, 3, api.MaxEps) {
			if l, e := merge.Bands(s, eps); len(l) > 0 || e != api.ErrSeg {
				t.Errorf("Bands(%v, %d): %v %d", s, eps, l, e)
			}
		}
	}
	for _, s := range segrows.Good() {
		for _, eps := range append(wrongBounds(), s.Err-1) {
			if l, e := merge.Bands(s, eps); len(l) > 0 || e != api.ErrEps {
				t.Errorf("Bands(%v, %d): %v %d", s, eps, l, e)
			}
		}
	}
}

// counts is how often what was met, so that it is told if there were too few to tell.
type counts struct {
	ways, kinds, ties, fewer [5]int
	as, more                 int
}

func (c *counts) count(w wanted, most int) {
	c.ways[w.way]++
	c.kinds[w.s.Kind]++
	least := math.MaxInt
	for way := api.WayFlat; way <= api.WayRaw; way++ {
		switch n := w.sizes[way]; {
		case n > 0 && n == least && w.way > 0 && way > w.way:
			c.ties[way]++
		case n > 0 && n < least:
			if way == w.way && least < math.MaxInt {
				c.fewer[way]++
			}
			least = n
		}
	}
	switch {
	case w.way > 0 && least == most:
		c.as++
	case w.way == 0 && least == most+1:
		c.more++
	}
}

func TestPair(t *testing.T) {
	// P14.2: of the ways that go through, the one of the fewest bytes, of several the first one; none that has more than both.
	var c counts
	for _, two := range twos() {
		a, b := two[0], two[1]
		for _, eps := range bounds() {
			s, is, e := merge.Pair(a, b, eps)
			if !isBound(eps, a, b) {
				if !seg.Same(s, api.Seg{}) || is || e != api.ErrEps {
					t.Fatalf("Pair(%v, %v, %d): %v %t %d, not ErrEps", a, b, eps, s, is, e)
				}
				continue
			}
			w := want(a, b, eps)
			if !seg.Same(s, w.s) || is != (w.way > 0) || e != api.OK {
				t.Fatalf("Pair(%v, %v, %d): %v %t %d, not %v", a, b, eps, s, is, e, w)
			}
			if is {
				holdPair(t, a, b, s, eps)
			}
			c.count(w, bytesOf(a, b))
		}
	}
	for way := api.WayFlat; way <= api.WayRaw; way++ {
		if c.ways[way] < 50 || c.kinds[way] < 50 {
			t.Errorf("ways %v, kinds %v: too few to tell", c.ways, c.kinds)
		}
		if way > api.WayFlat && (c.ties[way] < 20 || c.fewer[way] < 5) {
			t.Errorf("of the same size as one named ahead %v, of less than one %v: too few to tell", c.ties, c.fewer)
		}
	}
	if c.ways[0] < 50 || c.as < 20 || c.more < 20 {
		t.Errorf("nothing comes %d times, as many bytes as both %d times, one more %d times: too few to tell", c.ways[0], c.as, c.more)
	}
}

// holdPair holds what P14.4 says of two that were put together.
func holdPair(t *testing.T, a, b, s api.Seg, eps int64) {
	t.Helper()
	if seg.Check(s) != api.OK || !slices.Equal(timesOf(s), timesOf(a, b)) || bytesOf(s) > bytesOf(a, b) || s.Err > eps {
		t.Fatalf("%v and %v, within %d, became %v", a, b, eps, s)
	}
	if eps == 0 && !slices.Equal(valuesOf(s), valuesOf(a, b)) {
		t.Fatalf("%v and %v, within 0, became %v", a, b, s)
	}
	for _, side := range []int64{-1, 1} {
		held := slices.Concat(edge(a, side), edge(b, side))
		if !seg.Holds(s, held) {
			t.Fatalf("%v and %v, within %d, became %v, that does not hold %v", a, b, eps, s, held)
		}
	}
}

// edge tells the points that a segment holds only just, on one side.
func edge(s api.Seg, side int64) []api.Point {
	l, _ := seg.Points(s)
	for i := range l {
		l[i].V = max(min(l[i].V+side*s.Err, maxBack), -maxBack)
	}
	return l
}

func TestPairErrors(t *testing.T) {
	// P14.2: ErrSeg ahead of ErrEps, that ahead of ErrArg, that ahead of false; beside them nothing.
	hold := func(a, b api.Seg, eps int64, want api.Errno) {
		t.Helper()
		if s, is, e := merge.Pair(a, b, eps); !seg.Same(s, api.Seg{}) || is || e != want {
			t.Errorf("Pair(%v, %v, %d): %v %t %d, not %d", a, b, eps, s, is, e, want)
		}
	}
	first, final := flat(0, 0, 0, 1), flat(maxTime, 0, 0, 1)
	for _, s := range segrows.Wrong() {
		for _, eps := range []int64{-1, 0, 3, api.MaxEps, api.MaxEps + 1} {
			hold(s, s, eps, api.ErrSeg)
			hold(s, final, eps, api.ErrSeg)
			hold(first, s, eps, api.ErrSeg)
			hold(final, s, eps, api.ErrSeg)
		}
	}
	for _, eps := range wrongBounds() {
		hold(first, final, eps, api.ErrEps)
		hold(final, first, eps, api.ErrEps)
		hold(flat(0, 0, 0, 200), flat(200, 0, 0, 200), eps, api.ErrEps)
	}
	hold(flat(0, 5, 3, 3), flat(3, 5, 0, 3), 2, api.ErrEps)
	hold(flat(0, 5, 0, 3), flat(3, 5, 3, 3), 2, api.ErrEps)
	hold(flat(3, 5, 3, 3), flat(0, 5, 0, 3), 2, api.ErrEps)
	hold(flat(3, 5, 0, 3), flat(0, 5, api.MaxEps, 3), api.MaxEps-1, api.ErrEps)
	for _, two := range [][2]api.Seg{
		{final, first}, {first, first}, {final, final}, {flat(0, 0, 0, 3), flat(2, 0, 0, 3)}, {flat(0, 0, 0, 9), flat(3, 0, 0, 2)},
		{flat(0, 0, 0, 200), flat(199, 0, 0, 200)}, {flat(200, 0, 0, 200), flat(0, 0, 0, 200)},
		{flat(3, 0, 0, 2), lined(0, api.Line{D: 1}, 0, 9)}, {lined(0, api.Line{D: 1}, 0, 9), flat(3, 0, 0, 2)},
	} {
		for _, eps := range []int64{0, 3, api.MaxEps} {
			hold(two[0], two[1], eps, api.ErrArg)
		}
	}
}

func TestManyTimes(t *testing.T) {
	// P14.2: 256 times together are not too many, one more is.
	for _, n := range []int{1, 2, 100, 128, 255} {
		a, b := flat(7, 5, 1, n), flat(7+int64(n), 6, 0, 256-n)
		s, is, e := merge.Pair(a, b, 3)
		if !seg.Same(s, want(a, b, 3).s) || seg.Count(s) != 256 || !is || e != api.OK {
			t.Errorf("Pair of %d and %d times: %v %t %d", n, 256-n, s, is, e)
		}
		for _, more := range []int{1, 2, n - 1, n} {
			if more == 0 || 256-n+more > 256 {
				continue
			}
			b := flat(7+int64(n), 5, 1, 256-n+more)
			if s, is, e := merge.Pair(a, b, 3); !seg.Same(s, api.Seg{}) || is || e != api.OK {
				t.Errorf("Pair of %d and %d times: %v %t %d", n, 256-n+more, s, is, e)
			}
		}
	}
}

// compacted tells by the chapter's words what comes of a row.
func compacted(l []api.Seg, eps int64) []api.Seg {
	var row []api.Seg
	for i, next := range l {
		if i == 0 {
			row = append(row, next)
			continue
		}
		held := row[len(row)-1]
		if w := want(held, next, eps); w.way > 0 {
			row[len(row)-1] = w.s
		} else {
			row = append(row, next)
		}
	}
	return row
}

// chosen tells rows of segments that window made of points, some points at a time, each with its points and its bound.
func chosen(tell func(points []api.Point, eps int64, row []api.Seg)) {
	rows := segrows.LongPoints()
	for at := 0; at+4 <= len(rows); at += 4 {
		var all []api.Point
		for _, part := range rows[at : at+4] {
			behind := int64(0)
			if len(all) > 0 {
				behind = all[len(all)-1].T + 1
			}
			for _, p := range part {
				all = append(all, api.Point{T: p.T + behind, V: p.V})
			}
		}
		for _, eps := range []int64{0, 1, 30, 2500, api.MaxEps} {
			var row []api.Seg
			for part := range slices.Chunk(all, 7) {
				segs, _ := window.Choose(part, eps)
				row = append(row, segs...)
			}
			tell(all, eps, row)
		}
	}
}

func TestCompact(t *testing.T) {
	// P14.3: the one that is held is paired with the next one, as long as that goes.
	var fewer, one, same, some int
	hold := func(l []api.Seg, eps int64) {
		t.Helper()
		row, e := merge.Compact(l, eps)
		want := compacted(l, eps)
		if !slices.EqualFunc(row, want, seg.Same) || e != api.OK {
			t.Fatalf("Compact(%v, %d): %v %d, not %v", l, eps, row, e, want)
		}
		switch {
		case len(l) > 1 && len(row) == 1:
			one++
		case len(row) == len(l):
			same++
		default:
			fewer++
		}
		if len(row) > 1 && len(row) < len(l) && seg.Same(row[len(row)-1], l[len(l)-1]) {
			some++
		}
	}
	hold(nil, 0)
	hold([]api.Seg{}, api.MaxEps)
	for _, l := range wandering() {
		for _, eps := range bounds()[2:] {
			if isBound(eps, l...) {
				hold(l, eps)
				hold(l[:1], eps)
				hold(l[3:5], eps)
			}
		}
	}
	chosen(func(_ []api.Point, eps int64, row []api.Seg) { hold(row, eps) })
	if min(fewer, one, same, some) < 10 {
		t.Errorf("fewer %d times, one %d times, as many %d times, the last one as it was %d times: too few to tell", fewer, one, same, some)
	}
}

func TestCompactErrors(t *testing.T) {
	// P14.3: ErrRow ahead of ErrEps; beside them nothing.
	hold := func(l []api.Seg, eps int64, want api.Errno) {
		t.Helper()
		if row, e := merge.Compact(l, eps); len(row) > 0 || e != want {
			t.Errorf("Compact(%v, %d): %v %d, not %d", l, eps, row, e, want)
		}
	}
	for _, l := range wrongRows() {
		for _, eps := range []int64{-1, 0, 3, api.MaxEps, math.MaxInt64} {
			hold(l, eps, api.ErrRow)
		}
	}
	a, b, c := flat(0, 5, 1, 3), flat(3, 7, 4, 2), flat(5, 9, 2, 2)
	for _, eps := range wrongBounds() {
		for _, l := range [][]api.Seg{nil, {}, {a}, {a, b}, {a, b, c}} {
			hold(l, eps, api.ErrEps)
		}
	}
	hold([]api.Seg{a}, 0, api.ErrEps)
	hold([]api.Seg{a, b, c}, 3, api.ErrEps)
	hold([]api.Seg{b, c}, 2, api.ErrEps)
	hold([]api.Seg{a, c, flat(9, 0, 3, 1)}, 2, api.ErrEps)
}

// holdRow holds that a row came of another one: of the same times, no more segments, no more bytes; and of these points, each of which is within the bound still, and within what its segment tells.
func holdRow(t *testing.T, points []api.Point, eps int64, from, row []api.Seg) {
	t.Helper()
	if merge.Check(row) != api.OK || !slices.Equal(timesOf(row...), timesOf(from...)) || len(row) > len(from) || bytesOf(row...) > bytesOf(from...) {
		t.Fatalf("%v, within %d, became %v", from, eps, row)
	}
	if eps == 0 && !slices.Equal(valuesOf(row...), valuesOf(from...)) {
		t.Fatalf("%v, within 0, became %v", from, row)
	}
	for _, s := range row {
		n := seg.Count(s)
		if s.Err > eps || !seg.Holds(s, points[:n]) {
			t.Fatalf("%v, within %d, became %v: %v does not hold %v", from, eps, row, s, points[:n])
		}
		points = points[n:]
	}
}

func TestOftenPutTogether(t *testing.T) {
	// P14.4: however often segments are put together, and those again, all points are within the same bound.
	var fewer [4]int
	chosen(func(points []api.Point, eps int64, row []api.Seg) {
		holdRow(t, points, eps, row, row)
		// parts by themselves, and then those together, over and over
		for i, n := range []int{2, 2, 3, len(row)} {
			var next []api.Seg
			for part := range slices.Chunk(row, n) {
				came, _ := merge.Compact(part, eps)
				next = append(next, came...)
			}
			holdRow(t, points, eps, row, next)
			if len(next) < len(row) {
				fewer[i]++
			}
			row = next
		}
	})
	if slices.Min(fewer[:]) < 10 {
		t.Errorf("there are fewer %v times: too few to tell", fewer)
	}
	// what goes by itself, segment by segment: each time by what was told last, not by the readings
	below := bandrows.Below(29)
	for _, eps := range []int64{3, 60, 1000} {
		var points []api.Point
		var held api.Seg
		for at := range int64(200) {
			p := api.Point{T: at, V: at + below(eps)}
			s := flat(at, p.V, 0, 1)
			points = append(points, p)
			if at == 0 {
				held = s
			} else if both, is, _ := merge.Pair(held, s, eps); is {
				held = both
			} else {
				points, held = points[len(points)-1:], s
			}
			holdRow(t, points, eps, []api.Seg{held}, []api.Seg{held})
		}
	}
}

func TestNothingIsShared(t *testing.T) {
	// P14.1 to P14.3: what comes in stays, the room behind it, too; what is answered is new, and stays when the segments change.
	squares := []int64{0, 1, 4, 9, 16, 25}
	stay := []api.Seg{flat(0, 7, 0, 20), flat(20, 1<<40, 0, 20), raw(0, even(40, 6), squares...), flat(50, 1<<40, 0, 90), raw(0, even(140, 6), squares...)}
	for _, l := range append(wandering()[:40], stay) {
		eps := int64(5)
		var room []api.Seg
		for _, s := range l {
			s.Runs = append(slices.Clone(s.Runs), api.Run{From: 7})[:len(s.Runs)]
			s.Raw = append(slices.Clone(s.Raw), 7)[:len(s.Raw)]
			room = append(room, s)
		}
		room = append(room, segrows.Flat(1, 1))
		own := room[:len(l)]
		compact := func() []api.Seg {
			row, _ := merge.Compact(own, eps)
			return row
		}
		pair := func() []api.Seg {
			s, _, _ := merge.Pair(own[0], own[1], eps)
			return []api.Seg{s}
		}
		if segrows.Share(compact) || segrows.Share(pair) {
			t.Errorf("of %v some is shared", l)
		}
		merge.Check(own)
		row, both := compact(), pair()
		if seg.Same(l[0], stay[0]) && len(row) < len(l) {
			t.Errorf("%v became %v: too few stay to tell", l, row)
		}
		bands, _ := merge.Bands(own[0], eps)
		if !slices.EqualFunc(own, l, seg.Same) || !seg.Same(room[len(l)], segrows.Flat(1, 1)) {
			t.Fatalf("%v became %v", l, room)
		}
		for _, s := range own {
			if s.Runs[:len(s.Runs)+1][len(s.Runs)].From != 7 || s.Raw[:len(s.Raw)+1][len(s.Raw)] != 7 {
				t.Fatalf("%v: the room behind it became another", s)
			}
			segrows.Spoil(s)
		}
		if w := want(l[0], l[1], eps); !slices.EqualFunc(row, compacted(l, eps), seg.Same) || !seg.Same(both[0], w.s) || !slices.Equal(bands, bandsOf(l[0], eps)) {
			t.Errorf("%v is kept: %v, %v, %v", l, row, both, bands)
		}
	}
}

func TestExamples(t *testing.T) {
	// P14.1 to P14.3: the chapter's examples.
	a, b := flat(0, 5, 1, 3), flat(3, 7, 0, 2)
	if l, e := merge.Bands(a, 2); !slices.Equal(l, bandrows.Same(3, 4, 6)) || e != api.OK {
		t.Errorf("Bands(a, 2): %v %d", l, e)
	}
	if l, e := merge.Bands(a, 0); len(l) > 0 || e != api.ErrEps {
		t.Errorf("Bands(a, 0): %v %d", l, e)
	}
	for eps, want := range map[int64]api.Seg{2: flat(0, 5, 2, 5), 1: raw(1, even(0, 5), 5, 5, 5, 7, 7)} {
		if s, is, e := merge.Pair(a, b, eps); !seg.Same(s, want) || !is || e != api.OK {
			t.Errorf("Pair(a, b, %d): %v %t %d", eps, s, is, e)
		}
	}
	if s, is, e := merge.Pair(b, a, 2); !seg.Same(s, api.Seg{}) || is || e != api.ErrArg {
		t.Errorf("Pair(b, a, 2): %v %t %d", s, is, e)
	}
	if row, e := merge.Compact([]api.Seg{a, b}, 2); len(row) != 1 || e != api.OK {
		t.Errorf("Compact(a, b, 2): %v %d", row, e)
	}
}
