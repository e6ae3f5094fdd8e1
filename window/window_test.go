package window_test

import (
	"math"
	"math/big"
	"slices"
	"testing"

	"yearbook/api"
	"yearbook/line"
	"yearbook/pmc"
	"yearbook/runs"
	"yearbook/seg"
	"yearbook/segcode"
	"yearbook/segrows"
	"yearbook/slide"
	"yearbook/swing"
	"yearbook/window"
)

const (
	maxValue = int64(api.MaxValue)
	maxTime  = int64(api.MaxTime)
)

func allWays() []int {
	return []int{api.WayFlat, api.WayTilt, api.WayFree, api.WayRaw}
}

// at tells points at the times, of the values.
func at(times []int64, values ...int64) []api.Point {
	var l []api.Point
	for i, v := range values {
		l = append(l, api.Point{T: times[i], V: v})
	}
	return l
}

// points tells points at 0, 1, 2 and so on.
func points(values ...int64) []api.Point {
	var l []api.Point
	for i, v := range values {
		l = append(l, api.Point{T: int64(i), V: v})
	}
	return l
}

// even tells n points that are all the same.
func even(n int) []api.Point {
	return points(make([]int64, n)...)
}

// each tells all rows of points at the times, of the values.
func each(times []int64, values ...int64) [][]api.Point {
	l := [][]api.Point{nil}
	for _, t := range times {
		var longer [][]api.Point
		for _, row := range l {
			for _, v := range values {
				longer = append(longer, append(slices.Clone(row), api.Point{T: t, V: v}))
			}
		}
		l = longer
	}
	return l
}

// short tells all rows of few points that are small, or as far from one another as they may be.
func short() [][]api.Point {
	const m, end = maxValue, maxTime
	return slices.Concat(
		each([]int64{0}, -m, -64, -1, 0, 1, 63, 64, m),
		each([]int64{end}, -m, 0, m),
		each([]int64{0, 1}, 0, 1, 2, 3, 200),
		each([]int64{5, 7, 8}, -2, -1, 0, 3, 4),
		each([]int64{0, 1, 2, 3}, 0, 1, 2, 3),
		each([]int64{0, 2, 3, 4, 7}, -1, 0, 2),
		each([]int64{0, 1, 2, 3, 4, 5}, 0, 7),
		each([]int64{0, 1, end}, -m, 1-m, 0, m),
		each([]int64{0, end - 1, end}, -m, 0, m-1, m),
		each([]int64{5, end / 3, end / 3 * 2}, -m, -1, 0, m),
	)
}

func rows() [][]api.Point {
	return slices.Concat(short(), segrows.LongPoints())
}

func bounds() []int64 {
	return []int64{0, 1, 2, 30, api.MaxEps}
}

// wrong tells points that may not be, each wrong in one way.
func wrong() [][]api.Point {
	last := func(p api.Point) []api.Point { return append(even(31), p) }
	l := [][]api.Point{nil, {}, even(33), even(34), even(257), even(1000), make([]api.Point, 2)}
	for _, t := range []int64{-1, math.MinInt64, maxTime + 1, math.MaxInt64} {
		l = append(l, []api.Point{{T: t}}, append([]api.Point{{T: t}}, even(3)...), last(api.Point{T: t}))
	}
	for _, v := range []int64{maxValue + 1, -maxValue - 1, api.MaxBack, math.MaxInt64, math.MinInt64} {
		l = append(l, points(v), points(v, 0), points(0, v, 0), last(api.Point{T: 31, V: v}))
	}
	for _, times := range [][]int64{{3, 3}, {3, 2}, {3, 5, 4}, {3, 5, 3}, {maxTime, 0}, {0, maxTime, maxTime}} {
		l = append(l, at(times, make([]int64, len(times))...))
	}
	return append(l, last(api.Point{T: 30}), last(api.Point{T: 29}))
}

// holdError holds that what takes a bound tells an error, and nothing besides; Way does so of each way, be it none.
func holdError(t *testing.T, l []api.Point, eps int64, want api.Errno) {
	t.Helper()
	if b, e := window.Bands(l, eps); len(b) > 0 || e != want {
		t.Errorf("Bands(%v, %d): %v %d, not %d", l, eps, b, e, want)
	}
	for way := -1; way <= 6; way++ {
		if s, e := window.Way(l, eps, way); len(s) > 0 || e != want {
			t.Errorf("Way(%v, %d, %d): %v %d, not %d", l, eps, way, s, e, want)
		}
	}
	if way, e := window.Best(l, eps); way != 0 || e != want {
		t.Errorf("Best(%v, %d): %d %d, not %d", l, eps, way, e, want)
	}
	if s, e := window.Choose(l, eps); len(s) > 0 || e != want {
		t.Errorf("Choose(%v, %d): %v %d, not %d", l, eps, s, e, want)
	}
}

func wrongBounds() []int64 {
	return []int64{-1, -api.MaxEps, math.MinInt64, api.MaxEps + 1, maxValue, math.MaxInt64}
}

func TestCheck(t *testing.T) {
	// P13.1: from 1 to 32 points, of times that rise, and of values.
	good := slices.Concat(rows(), [][]api.Point{even(1), even(31), even(32), at([]int64{0, maxTime}, maxValue, -maxValue)})
	for _, l := range good {
		if e := window.Check(l); e != api.OK {
			t.Errorf("Check(%v): %d", l, e)
		}
	}
	for _, l := range wrong() {
		if e := window.Check(l); e != api.ErrPoints {
			t.Errorf("Check(%v): %d", l, e)
		}
	}
}

func TestWrong(t *testing.T) {
	// P13.1, P13.2, P13.4: ErrPoints ahead of ErrEps, that ahead of ErrArg; beside them nothing.
	for _, l := range wrong() {
		for _, eps := range append(wrongBounds(), 0, 3, api.MaxEps) {
			holdError(t, l, eps, api.ErrPoints)
		}
	}
	for _, l := range [][]api.Point{points(7), points(0, 1, 5), even(32), points(maxValue, -maxValue)} {
		for _, eps := range wrongBounds() {
			holdError(t, l, eps, api.ErrEps)
		}
		for _, way := range []int{0, -1, 5, 6, math.MinInt, math.MaxInt} {
			for _, eps := range bounds() {
				if s, e := window.Way(l, eps, way); len(s) > 0 || e != api.ErrArg {
					t.Errorf("Way(%v, %d, %d): %v %d", l, eps, way, s, e)
				}
			}
		}
	}
}

// bandsOf tells bands by the chapter's words.
func bandsOf(l []api.Point, eps int64) []api.Band {
	var bands []api.Band
	for _, p := range l {
		bands = append(bands, api.Band{T: p.T, Lo: p.V - eps, Hi: p.V + eps})
	}
	return bands
}

func TestBands(t *testing.T) {
	// P13.1: from V less eps to V and eps, up to the ends of what may be told.
	for _, l := range rows() {
		for _, eps := range bounds() {
			b, e := window.Bands(l, eps)
			if !slices.Equal(b, bandsOf(l, eps)) || e != api.OK || pmc.Check(b) != api.OK {
				t.Fatalf("Bands(%v, %d): %v %d", l, eps, b, e)
			}
		}
	}
	b, e := window.Bands(at([]int64{3, maxTime}, maxValue, -maxValue), api.MaxEps)
	want := []api.Band{{T: 3, Lo: maxValue - api.MaxEps, Hi: api.MaxBack}, {T: maxTime, Lo: -api.MaxBack, Hi: api.MaxEps - maxValue}}
	if !slices.Equal(b, want) || e != api.OK {
		t.Errorf("Bands at the ends: %v %d", b, e)
	}
}

// lines is how a way cuts bands, and the line of a part.
type lines struct {
	cut func(l []api.Band) ([]int, api.Errno)
	fit func(l []api.Band) (api.Line, api.Errno)
}

func constant(l []api.Band) (api.Line, api.Errno) {
	v, e := pmc.Fit(l)
	return api.Line{A: v, D: 1}, e
}

// inWay tells the segments by the chapter's table, by the layers below, which are held by themselves.
func inWay(l []api.Point, eps int64, way int) []api.Seg {
	if way == api.WayRaw {
		return []api.Seg{{Kind: api.SegRaw, Runs: runsOf(l), Raw: valuesOf(l)}}
	}
	x := map[int]lines{api.WayFlat: {pmc.Cut, constant}, api.WayTilt: {swing.Cut, swing.Fit}, api.WayFree: {slide.Cut, slide.Fit}}[way]
	var segs []api.Seg
	counts, _ := x.cut(bandsOf(l, eps))
	for _, n := range counts {
		fit, _ := x.fit(bandsOf(l[:n], eps))
		s := api.Seg{Kind: seg.Kind(fit), Runs: runsOf(l[:n]), Line: fit}
		for _, p := range l[:n] {
			v, _ := line.At(fit, p.T-l[0].T)
			s.Err = max(s.Err, v-p.V, p.V-v)
		}
		segs = append(segs, s)
		l = l[n:]
	}
	return segs
}

func runsOf(l []api.Point) []api.Run {
	var times []int64
	for _, p := range l {
		times = append(times, p.T)
	}
	row, _ := runs.Of(times)
	return row
}

func valuesOf(l []api.Point) []int64 {
	var values []int64
	for _, p := range l {
		values = append(values, p.V)
	}
	return values
}

// told tells all times and values of segments.
func told(segs []api.Seg) []api.Point {
	var l []api.Point
	for _, s := range segs {
		p, _ := seg.Points(s)
		l = append(l, p...)
	}
	return l
}

func bytesOf(segs []api.Seg) int {
	n := 0
	for _, s := range segs {
		b, _ := segcode.Encode(s)
		n += len(b)
	}
	return n
}

func TestWay(t *testing.T) {
	// P13.2: the segments are those of the chapter's table.
	kinds := map[[2]int]int{}
	for _, l := range rows() {
		for _, eps := range bounds() {
			for _, way := range allWays() {
				segs, e := window.Way(l, eps, way)
				want := inWay(l, eps, way)
				if !slices.EqualFunc(segs, want, seg.Same) || e != api.OK {
					t.Fatalf("Way(%v, %d, %d): %v %d, not %v", l, eps, way, segs, e, want)
				}
				for _, s := range segs {
					kinds[[2]int{way, s.Kind}]++
				}
			}
		}
	}
	for _, x := range [][2]int{{1, api.SegFlat}, {2, api.SegFlat}, {2, api.SegTilt}, {3, api.SegFlat}, {3, api.SegTilt}, {3, api.SegFree}, {4, api.SegRaw}} {
		if kinds[x] < 50 {
			t.Errorf("in the way %d %d segments are of the Kind %d: too few to tell", x[0], kinds[x], x[1])
		}
	}
}

// holdWithin holds that segments have just the points' times, and are each as far from them as they say, and that is within eps.
func holdWithin(t *testing.T, l []api.Point, eps int64, segs []api.Seg) {
	t.Helper()
	all := told(segs)
	if len(all) != len(l) {
		t.Fatalf("of %v there are the times of %v", l, segs)
	}
	at := 0
	for _, s := range segs {
		far, n := int64(0), seg.Count(s)
		for i := at; i < at+n; i++ {
			if all[i].T != l[i].T {
				t.Fatalf("of %v there are the times of %v", l, segs)
			}
			far = max(far, all[i].V-l[i].V, l[i].V-all[i].V)
		}
		if seg.Check(s) != api.OK || !seg.Holds(s, l[at:at+n]) || s.Err != far || far > eps {
			t.Fatalf("%v, within %d: %v is %d from them", l, eps, s, far)
		}
		at += n
	}
}

func TestWithin(t *testing.T) {
	// P13.5: the times are the points', each segment holds its points, within the bound; of a bound of 0 the values are the same.
	for _, l := range rows() {
		for _, eps := range bounds() {
			chosen, _ := window.Choose(l, eps)
			holdWithin(t, l, eps, chosen)
			for _, way := range allWays() {
				segs, _ := window.Way(l, eps, way)
				holdWithin(t, l, eps, segs)
				if eps == 0 && !slices.Equal(told(segs), l) {
					t.Fatalf("Way(%v, 0, %d): the values are %v", l, way, told(segs))
				}
			}
		}
	}
}

func TestSize(t *testing.T) {
	// P13.3: how many bytes all have together; they need not follow one another.
	all := segrows.All()
	for _, l := range [][]api.Seg{nil, {}, all[:1], all[:2], all, segrows.Good(), {all[3], all[3], all[0]}} {
		if n, e := window.Size(l); n != bytesOf(l) || e != api.OK {
			t.Errorf("Size of %d segments: %d %d, not %d", len(l), n, e, bytesOf(l))
		}
	}
	for _, s := range all {
		if n, e := window.Size([]api.Seg{s}); n != bytesOf([]api.Seg{s}) || n < 5 || e != api.OK {
			t.Fatalf("Size(%v): %d %d", s, n, e)
		}
	}
	for _, s := range segrows.Wrong() {
		for _, l := range [][]api.Seg{{s}, {s, s}, append([]api.Seg{s}, all[:2]...), append(slices.Clone(all[:2]), s), {all[0], s, all[1]}} {
			if n, e := window.Size(l); n != 0 || e != api.ErrSeg {
				t.Errorf("Size(%v): %d %d", l, n, e)
			}
		}
	}
}

func TestBest(t *testing.T) {
	// P13.4, P13.5: the way of the least size, of several the one named first; no way has fewer bytes.
	chosen, ties := map[int]int{}, map[[2]int]int{}
	for _, l := range rows() {
		for _, eps := range bounds() {
			want, least := 0, math.MaxInt
			for _, way := range allWays() {
				n := bytesOf(inWay(l, eps, way))
				if n < least {
					want, least = way, n
				} else if n == least {
					ties[[2]int{want, way}]++
				}
			}
			if way, e := window.Best(l, eps); way != want || e != api.OK {
				t.Fatalf("Best(%v, %d): %d %d, not %d", l, eps, way, e, want)
			}
			segs, e := window.Choose(l, eps)
			if !slices.EqualFunc(segs, inWay(l, eps, want), seg.Same) || e != api.OK {
				t.Fatalf("Choose(%v, %d): %v %d, not the way %d", l, eps, segs, e, want)
			}
			chosen[want]++
		}
	}
	for _, way := range allWays() {
		if chosen[way] < 50 {
			t.Errorf("the way %d is chosen %d times: too few to tell", way, chosen[way])
		}
	}
	for _, two := range [][2]int{{1, 2}, {1, 3}, {1, 4}, {2, 3}} {
		if ties[two] < 20 {
			t.Errorf("%d times the ways %v are of one size: too few to tell", ties[two], two)
		}
	}
}

// fewest tells of how few parts a row may be, if each must go: by all ways to cut it.
func fewest(n int, goes func(from, to int) bool) int {
	parts := make([]int, n+1)
	for to := 1; to <= n; to++ {
		parts[to] = to
		for from := range to {
			if parts[from]+1 < parts[to] && goes(from, to) {
				parts[to] = parts[from] + 1
			}
		}
	}
	return parts[n]
}

// isLevel tells whether a constant is within eps of the points: just if they are no further apart than that twice.
func isLevel(l []api.Point, eps int64) bool {
	least, most := l[0].V, l[0].V
	for _, p := range l {
		least, most = min(least, p.V), max(most, p.V)
	}
	return most-least <= 2*eps
}

// isStraight tells whether any exact line is within eps of the points: just if there is a slope that each two of them let.
func isStraight(l []api.Point, eps int64) bool {
	var from, to *big.Rat
	for i, a := range l {
		for _, b := range l[i+1:] {
			lo, hi := big.NewRat(b.V-a.V-2*eps, b.T-a.T), big.NewRat(b.V-a.V+2*eps, b.T-a.T)
			if from == nil || lo.Cmp(from) > 0 {
				from = lo
			}
			if to == nil || hi.Cmp(to) < 0 {
				to = hi
			}
		}
	}
	return from == nil || from.Cmp(to) <= 0
}

func TestFewest(t *testing.T) {
	// P13.5: no partition into constants has fewer parts than WayFlat's, none into lines fewer than WayFree's.
	var some [][]api.Point
	for i, l := range segrows.LongPoints() {
		if i%5 == 0 {
			some = append(some, l[:min(len(l), 14)])
		}
	}
	fewer := 0
	for _, l := range slices.Concat(short(), some) {
		for _, eps := range bounds() {
			flat, _ := window.Way(l, eps, api.WayFlat)
			if n := fewest(len(l), func(from, to int) bool { return isLevel(l[from:to], eps) }); len(flat) != n {
				t.Fatalf("Way(%v, %d, WayFlat): %v, and %d are enough", l, eps, flat, n)
			}
			free, _ := window.Way(l, eps, api.WayFree)
			if n := fewest(len(l), func(from, to int) bool { return isStraight(l[from:to], eps) }); len(free) != n {
				t.Fatalf("Way(%v, %d, WayFree): %v, and %d are enough", l, eps, free, n)
			}
			if len(free) < len(flat) {
				fewer++
			}
		}
	}
	if fewer < 100 {
		t.Errorf("%d times there are fewer lines than constants: too few to tell", fewer)
	}
}

// holdApart holds that an answer's segments share nothing, neither with one another nor with those of another answer.
func holdApart(t *testing.T, answer func() []api.Seg) {
	t.Helper()
	if segrows.Share(answer) {
		t.Errorf("%v share something", answer())
	}
}

func TestNothingIsShared(t *testing.T) {
	// P13.1 to P13.4: what comes in stays, the room behind it, too; what is answered is new, and stays when the points change.
	for _, l := range [][]api.Point{points(5), points(0, 1, 5, 5, 5, 9, 0, 3), at([]int64{0, 1, 5, 7, 9}, 3, 3, 9, 8, 7), even(32)} {
		room := append(slices.Clone(l), points(7, 7, 7)...)
		was, own := slices.Clone(room), room[:len(l)]
		for _, eps := range []int64{0, 1, 3} {
			for _, way := range allWays() {
				holdApart(t, func() []api.Seg {
					segs, _ := window.Way(own, eps, way)
					return segs
				})
			}
			holdApart(t, func() []api.Seg {
				segs, _ := window.Choose(own, eps)
				return segs
			})
			window.Best(own, eps)
			bands, _ := window.Bands(own, eps)
			raw, _ := window.Way(own, eps, api.WayRaw)
			if !slices.Equal(room, was) {
				t.Fatalf("%v became %v", was, room)
			}
			clear(own)
			if !slices.Equal(bands, bandsOf(l, eps)) || !slices.Equal(told(raw), l) {
				t.Errorf("%v is kept: %v, %v", l, bands, raw)
			}
			copy(own, l)
			clear(bands)
			if other, _ := window.Bands(own, eps); !slices.Equal(other, bandsOf(l, eps)) {
				t.Errorf("Bands(%v, %d), once more: %v", l, eps, other)
			}
		}
	}
	segs := segrows.Good()
	window.Size(segs)
	if !slices.EqualFunc(segs, segrows.Good(), seg.Same) {
		t.Errorf("Size changes segments to %v", segs)
	}
}

func TestExamples(t *testing.T) {
	// P13.2 to P13.4: the chapter's examples.
	one := func(n int, kind int, x api.Line, far int64) []api.Seg {
		return []api.Seg{{Kind: kind, Runs: runsOf(even(n)), Line: x, Err: far}}
	}
	var four []api.Seg
	for v := range int64(4) {
		four = append(four, api.Seg{Kind: api.SegFlat, Runs: []api.Run{{From: v, Count: 1}}, Line: api.Line{A: v, D: 1}})
	}
	for _, x := range []struct {
		points []api.Point
		eps    int64
		way    int
		want   []api.Seg
	}{
		{points(5, 5, 6), 1, api.WayFlat, one(3, api.SegFlat, api.Line{A: 5, D: 1}, 1)},
		{points(0, 1, 2, 3), 0, api.WayTilt, one(4, api.SegTilt, api.Line{N: 1, D: 1}, 0)},
		{points(0, 1, 2, 3), 0, api.WayFlat, four},
		{points(0, 0, 4), 2, api.WayFlat, one(3, api.SegFlat, api.Line{A: 2, D: 1}, 2)},
	} {
		if segs, e := window.Way(x.points, x.eps, x.way); !slices.EqualFunc(segs, x.want, seg.Same) || e != api.OK {
			t.Errorf("Way(%v, %d, %d): %v %d", x.points, x.eps, x.way, segs, e)
		}
	}
	if way, e := window.Best(points(0, 1, 2, 3), 0); way != api.WayTilt || e != api.OK {
		t.Errorf("Best(0 1 2 3, 0): %d %d", way, e)
	}
	if way, e := window.Best(points(7), 0); way != api.WayFlat || e != api.OK {
		t.Errorf("Best(7, 0): %d %d", way, e)
	}
}
