package seg_test

import (
	"math"
	"math/big"
	"slices"
	"testing"

	"yearbook/api"
	"yearbook/bandrows"
	"yearbook/line"
	"yearbook/runs"
	"yearbook/seg"
	"yearbook/segrows"
	"yearbook/wide"
)

const (
	maxBack = int64(api.MaxBack)
	maxTime = int64(api.MaxTime)
	maxEps  = int64(api.MaxEps)
)

// floor is the chapter's value of a line, in numbers that lose nothing.
func floor(x api.Line, dt int64) *big.Int {
	exact := new(big.Rat).Mul(big.NewRat(x.N, x.D), big.NewRat(dt, 1))
	exact.Add(exact, big.NewRat(x.R, x.D)).Add(exact, big.NewRat(x.A, 1))
	return new(big.Int).Div(exact.Num(), exact.Denom())
}

// known is a segment, with its times and its values, as the chapter's own words tell them.
type known struct {
	s             api.Seg
	times, values []int64
}

// kindOf goes by the chapter's table.
func kindOf(x api.Line) int {
	switch {
	case x.R != 0:
		return api.SegFree
	case x.N != 0:
		return api.SegTilt
	}
	return api.SegFlat
}

// lined tells the segment of times and a line, if all its values may be told.
func lined(t *testing.T, times []int64, x api.Line) (known, bool) {
	t.Helper()
	l, e := runs.Of(times)
	if e != api.OK {
		t.Fatalf("Of(%v): %d", times, e)
	}
	k := known{s: api.Seg{Kind: kindOf(x), Runs: l, Line: x, Err: 2}, times: times}
	most := big.NewInt(maxBack)
	for _, at := range times {
		v := floor(x, at-times[0])
		if v.CmpAbs(most) > 0 {
			return k, false
		}
		k.values = append(k.values, v.Int64())
	}
	return k, true
}

// lines tells segments with lines, that may be, and then those of which a value may not be told.
func lines(t *testing.T) (may, beyond []known) {
	t.Helper()
	for times, x := range segrows.Lined() {
		if line.Check(x) != api.OK {
			continue
		}
		k, is := lined(t, times, x)
		if is {
			may = append(may, k)
		} else {
			beyond = append(beyond, k)
		}
	}
	return may, beyond
}

// raws tells segments with numbers.
func raws(t *testing.T) []known {
	t.Helper()
	var l []known
	for times, values := range segrows.Valued() {
		row, e := runs.Of(times)
		if e != api.OK {
			t.Fatalf("Of(%v): %d", times, e)
		}
		l = append(l, known{segrows.Numbers(row, values...), times, values})
	}
	return l
}

func all(t *testing.T) []known {
	t.Helper()
	may, _ := lines(t)
	return append(may, raws(t)...)
}

// part is what numbers come to, by the chapter's own words.
func part(t *testing.T, values []int64) api.Part {
	t.Helper()
	sum := wide.Of(0)
	for _, v := range values {
		sum, _ = wide.Add(sum, wide.Of(v))
	}
	return api.Part{Count: len(values), Min: slices.Min(values), Max: slices.Max(values), Sum: sum}
}

func (k known) points() []api.Point {
	var l []api.Point
	for i, at := range k.times {
		l = append(l, api.Point{T: at, V: k.values[i]})
	}
	return l
}

// about tells times that are those of the segment, or next to one, and others.
func (k known) about() []int64 {
	l := []int64{math.MinInt64, -1, 0, maxTime, maxTime + 1, math.MaxInt64}
	for i, at := range k.times {
		if i < 9 || i > len(k.times)-5 {
			l = append(l, at-1, at, at+1)
		}
	}
	return l
}

func TestValues(t *testing.T) {
	// P11.1, P11.3: what may be has its times, and its values at them, and none elsewhere.
	for _, k := range all(t) {
		if e := seg.Check(k.s); e != api.OK {
			t.Fatalf("Check(%v): %d", k.s, e)
		}
		if n := seg.Count(k.s); n != len(k.times) {
			t.Fatalf("Count(%v): %d, not %d", k.s, n, len(k.times))
		}
		if l, e := seg.Points(k.s); !slices.Equal(l, k.points()) || e != api.OK {
			t.Fatalf("Points(%v): %v %d, not %v", k.s, l, e, k.points())
		}
		for i, want := range k.values {
			if v, e := seg.Value(k.s, i); v != want || e != api.OK {
				t.Fatalf("Value(%v, %d): %d %d, not %d", k.s, i, v, e, want)
			}
		}
		for _, i := range []int{-1, len(k.times), len(k.times) + 1, math.MinInt, math.MaxInt} {
			if v, e := seg.Value(k.s, i); v != 0 || e != api.ErrNone {
				t.Fatalf("Value(%v, %d): %d %d", k.s, i, v, e)
			}
		}
		holdAt(t, k)
	}
}

func holdAt(t *testing.T, k known) {
	t.Helper()
	for _, at := range slices.Concat(k.about(), k.times) {
		want, wantE := int64(0), api.ErrNone
		if i := slices.Index(k.times, at); i >= 0 {
			want, wantE = k.values[i], api.OK
		}
		if v, e := seg.At(k.s, at); v != want || e != wantE {
			t.Fatalf("At(%v, %d): %d %d, not %d %d", k.s, at, v, e, want, wantE)
		}
	}
}

func TestPart(t *testing.T) {
	// P11.4: of all times, of some, of one and of none.
	for _, k := range all(t) {
		about := k.about()
		if len(k.times) > 9 {
			about = append(about[:12], k.times[100], k.times[200]+1)
		}
		for _, a := range about {
			for _, b := range about {
				holdPart(t, k, a, b)
			}
		}
	}
}

func holdPart(t *testing.T, k known, a, b int64) {
	t.Helper()
	var asked []int64
	for i, at := range k.times {
		if a <= at && at <= b {
			asked = append(asked, k.values[i])
		}
	}
	want, wantE := api.Part{}, api.ErrEmpty
	if len(asked) > 0 {
		want, wantE = part(t, asked), api.OK
	}
	if p, e := seg.Part(k.s, a, b); p != want || e != wantE {
		t.Fatalf("Part(%v, %d, %d): %v %d, not %v %d", k.s, a, b, p, e, want, wantE)
	}
}

func TestPartsTogether(t *testing.T) {
	// P11.6: what some times come to, and what those behind them come to, is what all come to.
	for _, k := range all(t) {
		whole, e := seg.Part(k.s, 0, maxTime)
		if e != api.OK {
			t.Fatalf("Part(%v): %d", k.s, e)
		}
		for i, at := range k.times {
			if i == 0 || i > 8 && i%50 != 0 {
				continue
			}
			former, e := seg.Part(k.s, 0, at-1)
			latter, f := seg.Part(k.s, at, maxTime)
			sum, g := wide.Add(former.Sum, latter.Sum)
			both := api.Part{Count: former.Count + latter.Count, Min: min(former.Min, latter.Min), Max: max(former.Max, latter.Max), Sum: sum}
			if both != whole || e != api.OK || f != api.OK || g != api.OK {
				t.Fatalf("Part(%v), cut at %d: %v, not %v", k.s, at, both, whole)
			}
		}
	}
}

func TestOf(t *testing.T) {
	// P11.1, P11.2: the same segment comes, with the line's Kind.
	may, _ := lines(t)
	for _, k := range may {
		if got := seg.Kind(k.s.Line); got != k.s.Kind {
			t.Fatalf("Kind(%v): %d, not %d", k.s.Line, got, k.s.Kind)
		}
		if s, e := seg.Of(k.s.Runs, k.s.Line, 2); !isSame(s, k.s) || e != api.OK {
			t.Fatalf("Of(%v, %v): %v %d", k.s.Runs, k.s.Line, s, e)
		}
	}
	for _, k := range raws(t) {
		if s, e := seg.Raw(k.s.Runs, k.values, 0); !isSame(s, k.s) || e != api.OK {
			t.Fatalf("Raw(%v, %v): %v %d", k.s.Runs, k.values, s, e)
		}
	}
}

func isSame(a, b api.Seg) bool {
	return a.Kind == b.Kind && slices.Equal(a.Runs, b.Runs) && a.Line == b.Line && slices.Equal(a.Raw, b.Raw) && a.Err == b.Err
}

func TestOfEdges(t *testing.T) {
	// P11.2: Err is from 0 to MaxEps; what may not be is ErrSeg, whatever of it is wrong.
	l := segrows.Example().Runs
	for _, far := range []int64{0, 1, maxEps} {
		if s, e := seg.Of(l, api.Line{A: 5, D: 1}, far); s.Err != far || s.Kind != api.SegFlat || e != api.OK {
			t.Errorf("Of, %d far: %v %d", far, s, e)
		}
		if s, e := seg.Raw(l, []int64{1, 2, 3, 4}, far); s.Err != far || s.Line != (api.Line{}) || e != api.OK {
			t.Errorf("Raw, %d far: %v %d", far, s, e)
		}
	}
	for _, far := range []int64{-1, maxEps + 1, math.MinInt64, math.MaxInt64} {
		if s, e := seg.Of(l, api.Line{A: 5, D: 1}, far); !isSame(s, api.Seg{}) || e != api.ErrSeg {
			t.Errorf("Of, %d far: %v %d", far, s, e)
		}
		if s, e := seg.Raw(l, []int64{1, 2, 3, 4}, far); !isSame(s, api.Seg{}) || e != api.ErrSeg {
			t.Errorf("Raw, %d far: %v %d", far, s, e)
		}
	}
	for _, s := range wrong(t) {
		if s.Kind == api.SegRaw && s.Line == (api.Line{}) {
			if got, e := seg.Raw(s.Runs, s.Raw, s.Err); !isSame(got, api.Seg{}) || e != api.ErrSeg {
				t.Errorf("Raw(%v, %v, %d): %v %d", s.Runs, s.Raw, s.Err, got, e)
			}
		}
		if len(s.Raw) == 0 && s.Kind == seg.Kind(s.Line) {
			if got, e := seg.Of(s.Runs, s.Line, s.Err); !isSame(got, api.Seg{}) || e != api.ErrSeg {
				t.Errorf("Of(%v, %v, %d): %v %d", s.Runs, s.Line, s.Err, got, e)
			}
		}
	}
}

func TestKind(t *testing.T) {
	// P11.1: 0 of a line that may not be.
	for _, x := range slices.Concat(bandrows.Lines(), segrows.FarLines(), []api.Line{
		{}, {D: 1}, {A: maxBack + 1, D: 1}, {A: -maxBack - 1, D: 1}, {N: 2, D: 4}, {R: 4, N: 1, D: 4}, {R: -1, N: 1, D: 4},
		{N: api.MaxSlope, D: 1}, {N: api.MaxSlope + 1, D: 1}, {N: 1, D: maxTime}, {N: 1, D: maxTime + 1}, {R: 1, D: 1}, {D: 2},
		{A: math.MinInt64, R: math.MinInt64, N: math.MinInt64, D: math.MinInt64},
	}) {
		want := 0
		if line.Check(x) == api.OK {
			want = kindOf(x)
		}
		if got := seg.Kind(x); got != want {
			t.Errorf("Kind(%v): %d, not %d", x, got, want)
		}
	}
}

// wrong tells segments that may not be.
func wrong(t *testing.T) []api.Seg {
	t.Helper()
	l := segrows.Wrong()
	_, beyond := lines(t)
	for _, k := range beyond {
		l = append(l, k.s)
	}
	return l
}

func TestWrong(t *testing.T) {
	// P11.1, P11.3 to P11.5: ErrSeg goes ahead of all else, with zeros beside it; nothing is said of what may not be.
	for _, s := range segrows.Good() {
		if e := seg.Check(s); e != api.OK {
			t.Errorf("Check(%v): %d", s, e)
		}
	}
	l := wrong(t)
	if len(l) < 150 {
		t.Errorf("%d segments that may not be: too few to tell", len(l))
	}
	for _, s := range l {
		if e := seg.Check(s); e != api.ErrSeg {
			t.Fatalf("Check(%v): %d", s, e)
		}
		if n := seg.Count(s); n != 0 {
			t.Fatalf("Count(%v): %d", s, n)
		}
		for _, i := range []int{-1, 0, 1, math.MaxInt} {
			if v, e := seg.Value(s, i); v != 0 || e != api.ErrSeg {
				t.Fatalf("Value(%v, %d): %d %d", s, i, v, e)
			}
			if v, e := seg.At(s, int64(i)); v != 0 || e != api.ErrSeg {
				t.Fatalf("At(%v, %d): %d %d", s, i, v, e)
			}
			if p, e := seg.Part(s, int64(i), 20); p != (api.Part{}) || e != api.ErrSeg {
				t.Fatalf("Part(%v, %d): %v %d", s, i, p, e)
			}
		}
		if p, e := seg.Points(s); p != nil || e != api.ErrSeg {
			t.Fatalf("Points(%v): %v %d", s, p, e)
		}
		for _, p := range [][]api.Point{nil, {{T: 0, V: 3}, {T: 1, V: 3}, {T: 2, V: 3}}, {{T: 10, V: 1}, {T: 12, V: -2}, {T: 14, V: 3}, {T: 16, V: 4}}} {
			if far, e := seg.Far(s, p); far != 0 || e != api.ErrSeg || seg.Holds(s, p) {
				t.Fatalf("Far(%v): %d %d", s, far, e)
			}
		}
	}
}

func TestSame(t *testing.T) {
	// P11.1: field by field, be it that a segment may not be.
	l := append(wrong(t), segrows.Example(), segrows.Flat(3, 0), segrows.Flat(3, 1), segrows.Flat(4, 0), segrows.Numbers(segrows.Example().Runs, 1, 2, 3, 4), segrows.Numbers(segrows.Example().Runs, 1, 2, 3, 5))
	for _, k := range raws(t) {
		l = append(l, k.s)
	}
	for _, a := range l {
		if !seg.Same(a, segrows.But(a, func(s *api.Seg) {})) {
			t.Fatalf("Same(%v, as it is)", a)
		}
		for _, b := range l {
			if got := seg.Same(a, b); got != isSame(a, b) {
				t.Fatalf("Same(%v, %v): %v", a, b, got)
			}
		}
	}
	none := segrows.But(segrows.Example(), func(s *api.Seg) { s.Raw = []int64{} })
	if !seg.Same(none, segrows.Example()) || seg.Check(none) != api.OK || !seg.Same(api.Seg{Runs: []api.Run{}}, api.Seg{}) {
		t.Errorf("nil and empty are not one")
	}
	changes := []func(s *api.Seg){
		func(s *api.Seg) { s.Kind++ },
		func(s *api.Seg) { s.Err++ },
		func(s *api.Seg) { s.Line.A++ },
		func(s *api.Seg) { s.Line.R++ },
		func(s *api.Seg) { s.Line.N++ },
		func(s *api.Seg) { s.Line.D++ },
		func(s *api.Seg) { s.Runs[0].From++ },
		func(s *api.Seg) { s.Runs[0].Step++ },
		func(s *api.Seg) { s.Runs[0].Count++ },
		func(s *api.Seg) { s.Runs = s.Runs[:0] },
		func(s *api.Seg) { s.Runs = append(s.Runs, s.Runs[0]) },
		func(s *api.Seg) { s.Raw = append(s.Raw, 0) },
		func(s *api.Seg) { s.Raw[1]++ },
		func(s *api.Seg) { s.Raw = s.Raw[:1] },
	}
	whole := api.Seg{Kind: api.SegRaw, Runs: segrows.Example().Runs, Line: segrows.Example().Line, Raw: []int64{3, 5}, Err: 2}
	for i, change := range changes {
		if other := segrows.But(whole, change); seg.Same(whole, other) || seg.Same(other, whole) {
			t.Errorf("Same, change %d: %v", i, other)
		}
	}
}

func TestFar(t *testing.T) {
	// P11.5: each place may be the farthest, on either side; also as far as there may be.
	below := bandrows.Below(12)
	for _, k := range all(t) {
		points, far := k.points(), int64(0)
		for i := range points {
			points[i].V = max(-maxBack, min(maxBack, points[i].V+below(7)-3))
			far = max(far, points[i].V-k.values[i], k.values[i]-points[i].V)
		}
		holdFar(t, k.s, points, far)
		holdFar(t, k.s, k.points(), 0)
		for i := 0; i < len(points); i += 1 + len(points)/8 {
			for _, v := range []int64{maxBack, -maxBack} {
				points := k.points()
				points[i].V = v
				holdFar(t, k.s, points, max(v-k.values[i], k.values[i]-v))
			}
		}
	}
	holdFar(t, segrows.Flat(maxBack, 0), []api.Point{{T: 0, V: maxBack}, {T: 1, V: -maxBack}, {T: 2, V: 0}}, 2*maxBack)
}

// holdFar holds how far points are from a segment, and whether it holds them with each Err.
func holdFar(t *testing.T, s api.Seg, points []api.Point, want int64) {
	t.Helper()
	if far, e := seg.Far(s, points); far != want || e != api.OK {
		t.Fatalf("Far(%v, %v): %d %d, not %d", s, points, far, e, want)
	}
	for _, err := range []int64{0, 1, 2, 3, want - 1, want, want + 1, maxEps} {
		if 0 <= err && err <= maxEps {
			s.Err = err
			if holds := seg.Holds(s, points); holds != (want <= err) {
				t.Fatalf("Holds(%v, %v): %v, and it is %d far", s, points, holds, want)
			}
		}
	}
}

func TestHeldPoints(t *testing.T) {
	// P11.6: what the points come to is from what is told by at most Err, Err, and Err times their count.
	below := bandrows.Below(13)
	for _, k := range all(t) {
		k.s.Err = 1 + below(1000)
		points, values := k.points(), []int64(nil)
		for i := range points {
			points[i].V = max(-maxBack, min(maxBack, points[i].V+below(2*k.s.Err+1)-k.s.Err))
			values = append(values, points[i].V)
		}
		told, e := seg.Part(k.s, 0, maxTime)
		if !seg.Holds(k.s, points) || e != api.OK {
			t.Fatalf("Holds(%v, %v): false, or %d", k.s, points, e)
		}
		own := part(t, values)
		diff, _ := wide.Sub(own.Sum, told.Sum)
		far, _ := wide.Int(diff)
		if max(own.Min-told.Min, told.Min-own.Min, own.Max-told.Max, told.Max-own.Max) > k.s.Err || max(far, -far) > k.s.Err*int64(len(values)) {
			t.Fatalf("%v holds %v: %v, and told is %v", k.s, points, own, told)
		}
	}
}

func TestFarOfOthers(t *testing.T) {
	// P11.5: points of it are of just its times, in their order, with values that may be told.
	good := []api.Point{{T: 10, V: 5}, {T: 12, V: 9}, {T: 14, V: 7}, {T: 16, V: 8}}
	hold := func(s api.Seg, points []api.Point) {
		t.Helper()
		if far, e := seg.Far(s, points); far != 0 || e != api.ErrArg || seg.Holds(s, points) {
			t.Errorf("Far(%v, %v): %d %d, or Holds", s, points, far, e)
		}
	}
	hold(segrows.Example(), nil)
	hold(segrows.Example(), []api.Point{})
	hold(segrows.Example(), good[:3])
	hold(segrows.Example(), good[1:])
	hold(segrows.Example(), append(slices.Clone(good), api.Point{T: 18, V: 9}))
	hold(segrows.Example(), make([]api.Point, 4))
	hold(segrows.Example(), make([]api.Point, 1000))
	hold(segrows.Example(), []api.Point{good[0], good[2], good[1], good[3]})
	for i := range good {
		for _, at := range []int64{good[i].T - 1, good[i].T + 1, good[i].T + 2, math.MinInt64, math.MaxInt64} {
			other := slices.Clone(good)
			other[i].T = at
			hold(segrows.Example(), other)
		}
		for _, v := range []int64{maxBack + 1, -maxBack - 1, math.MinInt64, math.MaxInt64} {
			other := slices.Clone(good)
			other[i].V = v
			hold(segrows.Example(), other)
		}
	}
	if !seg.Holds(segrows.Example(), good) {
		t.Errorf("Holds(%v, %v): false", segrows.Example(), good)
	}
}

func TestNothingIsShared(t *testing.T) {
	// P11.2, P11.3: what comes in stays, and what is answered is new.
	l := []api.Run{{From: 10, Step: 2, Count: 4}, {From: 1, Step: 1, Count: 1}}
	values := []int64{1, 2, 3, 4, 99}
	a, _ := seg.Of(l[:1], api.Line{A: 5, D: 1}, 0)
	b, _ := seg.Raw(l[:1], values[:4], 0)
	p, _ := seg.Points(b)
	a.Runs[0].From, b.Runs[0].Step, b.Raw[2], p[0].V = 1, 1, 77, 77
	_, _ = append(a.Runs, api.Run{}), append(b.Raw, 55)
	if !slices.Equal(l, []api.Run{{From: 10, Step: 2, Count: 4}, {From: 1, Step: 1, Count: 1}}) || !slices.Equal(values, []int64{1, 2, 3, 4, 99}) {
		t.Errorf("what came in is %v and %v now", l, values)
	}
	if b.Raw[0] != 1 {
		t.Errorf("Points gives out its segment's numbers")
	}
	c, _ := seg.Raw(l[:1], values[:4], 0)
	l[0].From, values[0] = 33, 44
	if c.Runs[0].From != 10 || c.Raw[0] != 1 {
		t.Errorf("what was handed in is kept: %v", c)
	}
}

func TestExamples(t *testing.T) {
	// P11.1 to P11.5: the chapter's examples.
	s := segrows.Example()
	if v, e := seg.At(s, 14); v != 7 || e != api.OK {
		t.Errorf("At(14): %d %d", v, e)
	}
	if v, e := seg.At(s, 13); v != 0 || e != api.ErrNone {
		t.Errorf("At(13): %d %d", v, e)
	}
	if v, e := seg.Value(s, 3); v != 8 || e != api.OK {
		t.Errorf("Value(3): %d %d", v, e)
	}
	if p, e := seg.Part(s, 11, 100); p != (api.Part{Count: 3, Min: 6, Max: 8, Sum: wide.Of(21)}) || e != api.OK {
		t.Errorf("Part(11, 100): %v %d", p, e)
	}
	if p, e := seg.Part(s, 17, 20); p != (api.Part{}) || e != api.ErrEmpty {
		t.Errorf("Part(17, 20): %v %d", p, e)
	}
	holdFar(t, s, []api.Point{{T: 10, V: 5}, {T: 12, V: 9}, {T: 14, V: 7}, {T: 16, V: 8}}, 3)
	if f, e := seg.Of(s.Runs, api.Line{A: 5, D: 1}, 3); f.Kind != api.SegFlat || e != api.OK {
		t.Errorf("Of, a flat one: %v %d", f, e)
	}
	if kind := seg.Kind(api.Line{A: 5, R: 1, N: 1, D: 2}); kind != api.SegFree {
		t.Errorf("Kind: %d", kind)
	}
}
