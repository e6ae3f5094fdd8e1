package span_test

import (
	"math"
	"math/big"
	"slices"
	"testing"

	"yearbook/api"
	"yearbook/span"
)

var none = api.Span{}

func of(lo, hi int64) api.Span {
	return api.Span{Lo: lo, Hi: hi}
}

// numbers tells the edges of 64 bits, their neighbours, and numbers of all lengths and both signs.
func numbers() []int64 {
	l := []int64{math.MinInt64, math.MinInt64 + 1, -1 << 62, -3, -2, -1, 0, 1, 2, 3, 1 << 62, math.MaxInt64 - 1, math.MaxInt64}
	for shift := 0; shift < 62; shift += 5 {
		l = append(l, -0x5bd1e995deadbeef>>shift, 0x5bd1e995deadbeef>>shift)
	}
	slices.Sort(l)
	return slices.Compact(l)
}

// spans tells all spans between two of the numbers, those that may not be, too.
func spans() []api.Span {
	var l []api.Span
	for _, lo := range numbers() {
		for _, hi := range numbers() {
			l = append(l, of(lo, hi))
		}
	}
	return l
}

// small tells all spans that may be from -most to most.
func small(most int64) []api.Span {
	var l []api.Span
	for lo := -most; lo <= most; lo++ {
		for hi := lo; hi <= most; hi++ {
			l = append(l, of(lo, hi))
		}
	}
	return l
}

// noSpans tells spans that may not be, with those first that just miss it.
func noSpans() []api.Span {
	return []api.Span{of(1, 0), of(0, -1), of(5, 4), of(math.MaxInt64, math.MinInt64), of(math.MinInt64+1, math.MinInt64), of(math.MaxInt64, math.MaxInt64-1)}
}

// wanted tells what a call must answer whose exact ends are these.
func wanted(lo, hi *big.Int) (api.Span, api.Errno) {
	if !lo.IsInt64() || !hi.IsInt64() {
		return none, api.ErrOver
	}
	return of(lo.Int64(), hi.Int64()), api.OK
}

func hold(t *testing.T, call string, got api.Span, gotErr api.Errno, want api.Span, wantErr api.Errno) {
	t.Helper()
	if got != want || gotErr != wantErr {
		t.Errorf("%s: %v %d, not %v %d", call, got, gotErr, want, wantErr)
	}
}

// rows tells the calls that take a row of spans.
func rows() []struct {
	name string
	call func(l ...api.Span) (api.Span, api.Errno)
} {
	return []struct {
		name string
		call func(l ...api.Span) (api.Span, api.Errno)
	}{
		{"Join", span.Join},
		{"Meet", span.Meet},
		{"Least", span.Least},
		{"Most", span.Most},
		{"Plus", span.Plus},
	}
}

// P4.1.
func TestCheckAndPoint(t *testing.T) {
	for _, s := range spans() {
		want := api.OK
		if s.Lo > s.Hi {
			want = api.ErrSpan
		}
		if e := span.Check(s); e != want {
			t.Errorf("Check(%v): %d", s, e)
		}
	}
	for _, s := range noSpans() {
		if e := span.Check(s); e != api.ErrSpan {
			t.Errorf("Check(%v): %d", s, e)
		}
	}
	for _, v := range numbers() {
		if s := span.Point(v); s != of(v, v) {
			t.Errorf("Point(%d): %v", v, s)
		}
	}
}

// P4.1: with math/big as the measure.
func TestAround(t *testing.T) {
	for _, v := range numbers() {
		for _, far := range numbers() {
			got, e := span.Around(v, far)
			if far < 0 {
				hold(t, "Around, below 0", got, e, none, api.ErrArg)
				continue
			}
			lo := new(big.Int).Sub(big.NewInt(v), big.NewInt(far))
			hi := new(big.Int).Add(big.NewInt(v), big.NewInt(far))
			want, wantErr := wanted(lo, hi)
			hold(t, "Around", got, e, want, wantErr)
		}
	}
}

// P4.1: the edges, written out.
func TestAroundEdges(t *testing.T) {
	for _, x := range []struct {
		v, far int64
		want   api.Span
		e      api.Errno
	}{
		{5, 2, of(3, 7), api.OK},
		{5, 0, of(5, 5), api.OK},
		{-5, 2, of(-7, -3), api.OK},
		{5, -1, none, api.ErrArg},
		{math.MinInt64, -1, none, api.ErrArg},
		{0, math.MinInt64, none, api.ErrArg},
		{math.MinInt64, math.MinInt64, none, api.ErrArg},
		{math.MinInt64, 0, of(math.MinInt64, math.MinInt64), api.OK},
		{math.MaxInt64, 0, of(math.MaxInt64, math.MaxInt64), api.OK},
		{math.MinInt64, 1, none, api.ErrOver},
		{math.MaxInt64, 1, none, api.ErrOver},
		{math.MinInt64 + 1, 1, of(math.MinInt64, math.MinInt64+2), api.OK},
		{math.MaxInt64 - 1, 1, of(math.MaxInt64-2, math.MaxInt64), api.OK},
		{0, math.MaxInt64, of(-math.MaxInt64, math.MaxInt64), api.OK},
		{-1, math.MaxInt64, of(math.MinInt64, math.MaxInt64-1), api.OK},
		{1, math.MaxInt64, none, api.ErrOver},
		{-2, math.MaxInt64, none, api.ErrOver},
	} {
		got, e := span.Around(x.v, x.far)
		hold(t, "Around", got, e, x.want, x.e)
	}
}

// P4.2.
func TestHas(t *testing.T) {
	for _, s := range spans() {
		for _, v := range numbers() {
			want := s.Lo <= s.Hi && s.Lo <= v && v <= s.Hi
			if span.Has(s, v) != want {
				t.Errorf("Has(%v, %d): not %v", s, v, want)
			}
		}
	}
	for _, x := range []struct {
		s    api.Span
		v    int64
		want bool
	}{
		{of(3, 7), 3, true}, {of(3, 7), 7, true}, {of(3, 7), 2, false}, {of(3, 7), 8, false},
		{of(5, 5), 5, true}, {of(7, 3), 5, false}, {of(7, 3), 7, false}, {of(7, 3), 3, false},
		{of(math.MinInt64, math.MaxInt64), math.MinInt64, true}, {of(math.MinInt64, math.MaxInt64), math.MaxInt64, true},
	} {
		if span.Has(x.s, x.v) != x.want {
			t.Errorf("Has(%v, %d): not %v", x.s, x.v, x.want)
		}
	}
}

// P4.2: by the numbers themselves, one after another; what may not be has none of them, and lies in nothing all the same.
func TestWithin(t *testing.T) {
	for lo := int64(-4); lo <= 4; lo++ {
		for hi := int64(-4); hi <= 4; hi++ {
			a := of(lo, hi)
			for _, b := range small(4) {
				want := lo <= hi
				for v := lo; v <= hi; v++ {
					want = want && span.Has(b, v)
				}
				if span.Within(a, b) != want {
					t.Errorf("Within(%v, %v): not %v", a, b, want)
				}
			}
			for _, b := range noSpans() {
				if span.Within(a, b) || span.Within(b, a) {
					t.Errorf("Within: %v and %v, which may not be", a, b)
				}
			}
		}
	}
	whole := of(math.MinInt64, math.MaxInt64)
	for _, x := range []struct {
		a, b api.Span
		want bool
	}{
		{of(3, 7), of(3, 8), true}, {of(3, 8), of(3, 7), false}, {of(3, 7), of(3, 7), true}, {of(2, 7), of(3, 7), false},
		{of(1, 2), of(3, 4), false}, {of(7, 3), of(3, 8), false}, {of(3, 7), of(8, 3), false}, {of(7, 3), of(7, 3), false},
		{whole, whole, true}, {of(math.MinInt64, 0), whole, true}, {whole, of(math.MinInt64, math.MaxInt64-1), false}, {whole, of(math.MinInt64+1, math.MaxInt64), false},
	} {
		if span.Within(x.a, x.b) != x.want {
			t.Errorf("Within(%v, %v): not %v", x.a, x.b, x.want)
		}
	}
}

// P4.2: with math/big as the measure, whose Rsh rounds down.
func TestWidthAndMiddle(t *testing.T) {
	for _, s := range spans() {
		width := span.Width(s)
		middle, e := span.Middle(s)
		if s.Lo > s.Hi {
			if width != 0 || middle != 0 || e != api.ErrSpan {
				t.Errorf("of %v: %d, %d %d", s, width, middle, e)
			}
			continue
		}
		lo, hi := big.NewInt(s.Lo), big.NewInt(s.Hi)
		if want := new(big.Int).Sub(hi, lo); width != want.Uint64() {
			t.Errorf("Width(%v): %d, not %d", s, width, want)
		}
		want := new(big.Int).Add(lo, hi)
		if want.Rsh(want, 1); middle != want.Int64() || e != api.OK {
			t.Errorf("Middle(%v): %d %d, not %d", s, middle, e, want)
		}
	}
}

// P4.2: the edges, written out.
func TestWidthAndMiddleEdges(t *testing.T) {
	for _, x := range []struct {
		s      api.Span
		width  uint64
		middle int64
		e      api.Errno
	}{
		{of(-3, 0), 3, -2, api.OK},
		{of(0, 3), 3, 1, api.OK},
		{of(-1, 0), 1, -1, api.OK},
		{of(-1, 1), 2, 0, api.OK},
		{of(-5, -2), 3, -4, api.OK},
		{of(7, 7), 0, 7, api.OK},
		{of(-7, -7), 0, -7, api.OK},
		{of(1, 0), 0, 0, api.ErrSpan},
		{of(math.MaxInt64, math.MinInt64), 0, 0, api.ErrSpan},
		{of(math.MinInt64, math.MaxInt64), math.MaxUint64, -1, api.OK},
		{of(math.MinInt64, math.MinInt64), 0, math.MinInt64, api.OK},
		{of(math.MaxInt64, math.MaxInt64), 0, math.MaxInt64, api.OK},
		{of(math.MinInt64, math.MinInt64+1), 1, math.MinInt64, api.OK},
		{of(math.MaxInt64-1, math.MaxInt64), 1, math.MaxInt64 - 1, api.OK},
		{of(math.MinInt64, 0), 1 << 63, -1 << 62, api.OK},
	} {
		if width := span.Width(x.s); width != x.width {
			t.Errorf("Width(%v): %d", x.s, width)
		}
		if middle, e := span.Middle(x.s); middle != x.middle || e != x.e {
			t.Errorf("Middle(%v): %d %d", x.s, middle, e)
		}
	}
}

// P4.3, P4.4, P4.5: rows, written out.
func TestRows(t *testing.T) {
	whole := of(math.MinInt64, math.MaxInt64)
	ends := []api.Span{of(math.MinInt64, math.MinInt64), of(math.MaxInt64, math.MaxInt64)}
	for _, x := range []struct {
		name                          string
		l                             []api.Span
		join, meet, least, most, plus api.Span
		met, added                    api.Errno
	}{
		{"one", []api.Span{of(-2, 5)}, of(-2, 5), of(-2, 5), of(-2, 5), of(-2, 5), of(-2, 5), api.OK, api.OK},
		{"apart", []api.Span{of(1, 2), of(5, 6)}, of(1, 6), none, of(1, 2), of(5, 6), of(6, 8), api.ErrEmpty, api.OK},
		{"apart, the other way round", []api.Span{of(5, 6), of(1, 2)}, of(1, 6), none, of(1, 2), of(5, 6), of(6, 8), api.ErrEmpty, api.OK},
		{"side by side", []api.Span{of(1, 2), of(3, 4)}, of(1, 4), none, of(1, 2), of(3, 4), of(4, 6), api.ErrEmpty, api.OK},
		{"at one number", []api.Span{of(1, 3), of(3, 4)}, of(1, 4), of(3, 3), of(1, 3), of(3, 4), of(4, 7), api.OK, api.OK},
		{"over one another", []api.Span{of(1, 5), of(4, 9)}, of(1, 9), of(4, 5), of(1, 5), of(4, 9), of(5, 14), api.OK, api.OK},
		{"one in the other", []api.Span{of(1, 5), of(3, 4)}, of(1, 5), of(3, 4), of(1, 4), of(3, 5), of(4, 9), api.OK, api.OK},
		{"0 alone, in common", []api.Span{of(-1, 0), of(0, 1)}, of(-1, 1), of(0, 0), of(-1, 0), of(0, 1), of(-1, 1), api.OK, api.OK},
		{"all below 0", []api.Span{of(-5, -3), of(-9, -4), of(-4, -1)}, of(-9, -1), of(-4, -4), of(-9, -4), of(-4, -1), of(-18, -8), api.OK, api.OK},
		{"two of three apart, the last", []api.Span{of(0, 9), of(0, 4), of(5, 9)}, of(0, 9), none, of(0, 4), of(5, 9), of(5, 22), api.ErrEmpty, api.OK},
		{"two of three apart, the first", []api.Span{of(0, 4), of(5, 9), of(0, 9)}, of(0, 9), none, of(0, 4), of(5, 9), of(5, 22), api.ErrEmpty, api.OK},
		{"both ends of the numbers", ends, whole, none, ends[0], ends[1], of(-1, -1), api.ErrEmpty, api.OK},
		{"all numbers, and one", []api.Span{whole, of(0, 0)}, whole, of(0, 0), of(math.MinInt64, 0), of(0, math.MaxInt64), whole, api.OK, api.OK},
		{"all numbers, twice", []api.Span{whole, whole}, whole, whole, whole, whole, none, api.OK, api.ErrOver},
	} {
		got, e := span.Join(x.l...)
		hold(t, "Join: "+x.name, got, e, x.join, api.OK)
		got, e = span.Meet(x.l...)
		hold(t, "Meet: "+x.name, got, e, x.meet, x.met)
		got, e = span.Least(x.l...)
		hold(t, "Least: "+x.name, got, e, x.least, api.OK)
		got, e = span.Most(x.l...)
		hold(t, "Most: "+x.name, got, e, x.most, api.OK)
		got, e = span.Plus(x.l...)
		hold(t, "Plus: "+x.name, got, e, x.plus, x.added)
	}
}

// P4.3, P4.4, P4.5: of none, nil or empty.
func TestRowsOfNone(t *testing.T) {
	for _, x := range rows() {
		want := api.ErrEmpty
		if x.name == "Plus" {
			want = api.OK
		}
		got, e := x.call()
		hold(t, x.name+" of nothing", got, e, none, want)
		got, e = x.call([]api.Span{}...)
		hold(t, x.name+" of an empty row", got, e, none, want)
	}
}

// P4.3, P4.4, P4.5, R2: what may not be is told ahead of all else, wherever it stands: also where nothing is in common, or a sum has no room.
func TestRowsOfNoSpans(t *testing.T) {
	for _, wrong := range noSpans() {
		for _, l := range [][]api.Span{
			{wrong},
			{wrong, wrong},
			{wrong, of(0, 1)},
			{of(0, 1), wrong},
			{of(0, 1), wrong, of(5, 6)},
			{of(0, 1), of(5, 6), wrong},
			{of(math.MinInt64, 0), of(-1, 0), wrong},
			{wrong, of(0, math.MaxInt64), of(0, 1)},
			{of(0, math.MaxInt64), of(0, math.MaxInt64), wrong},
		} {
			for _, x := range rows() {
				got, e := x.call(l...)
				hold(t, x.name+" of what may not be", got, e, none, api.ErrSpan)
			}
		}
	}
}

// exactRow tells what the document says of spans that may be, by its words: what is in common, too, if it may be.
func exactRow(l []api.Span) (join, meet, least, most api.Span) {
	var lows, highs []int64
	for _, s := range l {
		lows, highs = append(lows, s.Lo), append(highs, s.Hi)
	}
	slices.Sort(lows)
	slices.Sort(highs)
	last := len(l) - 1
	return of(lows[0], highs[last]), of(lows[last], highs[0]), of(lows[0], highs[0]), of(lows[last], highs[last])
}

// P4.3, P4.4, P4.5: rows of three of all edges, with math/big as the measure of sums.
func TestRowsOfThree(t *testing.T) {
	var l []api.Span
	for _, s := range spans() {
		if s.Lo <= s.Hi {
			l = append(l, s)
		}
	}
	for i, a := range l {
		for j, b := range l {
			row := []api.Span{a, b, l[(7*i+11*j)%len(l)]}
			join, meet, least, most := exactRow(row)
			got, e := span.Join(row...)
			hold(t, "Join", got, e, join, api.OK)
			got, e = span.Least(row...)
			hold(t, "Least", got, e, least, api.OK)
			got, e = span.Most(row...)
			hold(t, "Most", got, e, most, api.OK)
			got, e = span.Meet(row...)
			if meet.Lo > meet.Hi {
				hold(t, "Meet", got, e, none, api.ErrEmpty)
			} else {
				hold(t, "Meet", got, e, meet, api.OK)
			}
			want, wantErr := exactSum(row)
			got, e = span.Plus(row...)
			hold(t, "Plus", got, e, want, wantErr)
		}
	}
}

func exactSum(l []api.Span) (api.Span, api.Errno) {
	lo, hi := new(big.Int), new(big.Int)
	for _, s := range l {
		lo.Add(lo, big.NewInt(s.Lo))
		hi.Add(hi, big.NewInt(s.Hi))
	}
	return wanted(lo, hi)
}

// P4.5: the edges, written out: one end alone without room, and sums that come back.
func TestPlusEdges(t *testing.T) {
	least, greatest := span.Point(math.MinInt64), span.Point(math.MaxInt64)
	for _, x := range []struct {
		name string
		l    []api.Span
		want api.Span
		e    api.Errno
	}{
		{"to the greatest", []api.Span{of(0, 1<<62), of(0, 1<<62-1)}, of(0, math.MaxInt64), api.OK},
		{"above it", []api.Span{of(0, 1<<62), of(0, 1<<62)}, none, api.ErrOver},
		{"to the least", []api.Span{of(-1<<62, 0), of(-1<<62, 0)}, of(math.MinInt64, 0), api.OK},
		{"below it", []api.Span{of(-1<<62, 0), of(-1<<62-1, 0)}, none, api.ErrOver},
		{"above, and back", []api.Span{greatest, of(1, 1), of(-1, -1)}, greatest, api.OK},
		{"below, and back", []api.Span{least, of(-1, -1), of(1, 1)}, least, api.OK},
		{"far above, and back", []api.Span{greatest, greatest, greatest, greatest, least, least, least, least}, of(-4, -4), api.OK},
		{"far below, and back", []api.Span{least, least, least, least, greatest, greatest, greatest, greatest}, of(-4, -4), api.OK},
		{"2^64, whose lower bits are 0", []api.Span{greatest, greatest, of(2, 2)}, none, api.ErrOver},
		{"-2^64, whose lower bits are 0", []api.Span{least, least}, none, api.ErrOver},
		{"one below and one above", []api.Span{of(math.MinInt64, math.MaxInt64), of(-1, 1)}, none, api.ErrOver},
		{"both above, and back", []api.Span{of(0, math.MaxInt64), greatest, greatest, span.Point(-math.MaxInt64), span.Point(-math.MaxInt64)}, of(0, math.MaxInt64), api.OK},
		{"both below, and back", []api.Span{of(math.MinInt64, -1), least, greatest, of(1, 1)}, of(math.MinInt64, -1), api.OK},
		{"the upper one alone, and back", []api.Span{of(math.MinInt64, math.MaxInt64), of(1, 1), of(-1, -1)}, of(math.MinInt64, math.MaxInt64), api.OK},
		{"the upper one comes back, and the lower one leaves", []api.Span{of(math.MinInt64, math.MaxInt64), of(1, 1), of(-2, -1)}, none, api.ErrOver},
	} {
		got, e := span.Plus(x.l...)
		hold(t, "Plus: "+x.name, got, e, x.want, x.e)
	}
	many := append(slices.Repeat([]api.Span{greatest}, 1000), slices.Repeat([]api.Span{span.Point(-math.MaxInt64)}, 1000)...)
	got, e := span.Plus(many...)
	hold(t, "Plus of many", got, e, none, api.OK)
	got, e = span.Plus(many[:1999]...)
	hold(t, "Plus of one less", got, e, greatest, api.OK)
	got, e = span.Plus(many[:1998]...)
	hold(t, "Plus of two less", got, e, none, api.ErrOver)
}

// P4.5: with math/big as the measure.
func TestTimes(t *testing.T) {
	for _, s := range spans() {
		for _, n := range numbers() {
			got, e := span.Times(s, n)
			if s.Lo > s.Hi {
				hold(t, "Times of what may not be", got, e, none, api.ErrSpan)
				continue
			}
			lo := new(big.Int).Mul(big.NewInt(s.Lo), big.NewInt(n))
			hi := new(big.Int).Mul(big.NewInt(s.Hi), big.NewInt(n))
			if n < 0 {
				lo, hi = hi, lo
			}
			want, wantErr := wanted(lo, hi)
			hold(t, "Times", got, e, want, wantErr)
		}
	}
}

// P4.5: the edges, written out.
func TestTimesEdges(t *testing.T) {
	whole := of(math.MinInt64, math.MaxInt64)
	for _, x := range []struct {
		s    api.Span
		n    int64
		want api.Span
		e    api.Errno
	}{
		{of(1, 2), -3, of(-6, -3), api.OK},
		{of(-1, 2), 3, of(-3, 6), api.OK},
		{of(-1, 2), -1, of(-2, 1), api.OK},
		{whole, 0, of(0, 0), api.OK},
		{whole, 1, whole, api.OK},
		{whole, -1, none, api.ErrOver},
		{of(-math.MaxInt64, math.MaxInt64), -1, of(-math.MaxInt64, math.MaxInt64), api.OK},
		{span.Point(math.MinInt64), -1, none, api.ErrOver},
		{span.Point(-1), math.MinInt64, none, api.ErrOver},
		{span.Point(1), math.MinInt64, span.Point(math.MinInt64), api.OK},
		{of(0, 1), math.MinInt64, of(math.MinInt64, 0), api.OK},
		{of(-1<<62, 1<<62-1), 2, of(math.MinInt64, math.MaxInt64-1), api.OK},
		{of(-1<<62, 1<<62), 2, none, api.ErrOver},
		{of(-1<<62-1, 0), 2, none, api.ErrOver},
		{of(-1<<62, 1<<62), -2, none, api.ErrOver},
		{of(-1<<62+1, 1<<62), -2, of(math.MinInt64, math.MaxInt64-1), api.OK},
		{span.Point(1 << 62), 4, none, api.ErrOver},
		{span.Point(1 << 32), 1 << 32, none, api.ErrOver},
		{span.Point(-1 << 32), 1 << 32, none, api.ErrOver},
		{span.Point(math.MinInt64), math.MinInt64, none, api.ErrOver},
		{span.Point(math.MaxInt64), math.MinInt64, none, api.ErrOver},
		{of(1, 0), 0, none, api.ErrSpan},
		{of(math.MaxInt64, math.MinInt64), -1, none, api.ErrSpan},
		{of(math.MaxInt64, math.MinInt64), 2, none, api.ErrSpan},
	} {
		got, e := span.Times(x.s, x.n)
		hold(t, "Times", got, e, x.want, x.e)
	}
}

// choices calls back with each choice of a number out of each span.
func choices(l []api.Span, told func(chosen []int64)) {
	var choose func(chosen []int64)
	choose = func(chosen []int64) {
		if len(chosen) == len(l) {
			told(chosen)
			return
		}
		for v := l[len(chosen)].Lo; v <= l[len(chosen)].Hi; v++ {
			choose(append(chosen[:len(chosen):len(chosen)], v))
		}
	}
	choose(nil)
}

// hull is the shortest span in which all numbers lie that came to it.
type hull struct {
	api.Span
	some bool
}

func (h *hull) take(v int64) {
	if !h.some {
		*h = hull{of(v, v), true}
	}
	h.Lo, h.Hi = min(h.Lo, v), max(h.Hi, v)
}

// holdWhatFollows goes by all choices: what each call tells is just the shortest span in which what was chosen lies.
func holdWhatFollows(t *testing.T, l []api.Span) {
	t.Helper()
	var least, most, plus, join hull
	choices(l, func(chosen []int64) {
		sum := int64(0)
		for _, v := range chosen {
			sum += v
			join.take(v)
		}
		plus.take(sum)
		least.take(slices.Min(chosen))
		most.take(slices.Max(chosen))
	})
	got, e := span.Least(l...)
	hold(t, "Least", got, e, least.Span, api.OK)
	got, e = span.Most(l...)
	hold(t, "Most", got, e, most.Span, api.OK)
	got, e = span.Plus(l...)
	hold(t, "Plus", got, e, plus.Span, api.OK)
	got, e = span.Join(l...)
	hold(t, "Join", got, e, join.Span, api.OK)
}

// holdWidths holds how wide the answers are.
func holdWidths(t *testing.T, l []api.Span) {
	t.Helper()
	var widest, together uint64
	for _, s := range l {
		widest = max(widest, span.Width(s))
		together += span.Width(s)
	}
	least, _ := span.Least(l...)
	most, _ := span.Most(l...)
	plus, _ := span.Plus(l...)
	if span.Width(least) > widest || span.Width(most) > widest || span.Width(plus) != together {
		t.Errorf("of %v: %v, %v and %v have other widths", l, least, most, plus)
	}
}

// P4.6: all rows of up to three small spans.
func TestWhatFollows(t *testing.T) {
	for _, a := range small(3) {
		holdWhatFollows(t, []api.Span{a})
		holdWidths(t, []api.Span{a})
		for _, b := range small(3) {
			holdWhatFollows(t, []api.Span{a, b})
			holdWidths(t, []api.Span{a, b})
		}
	}
	for _, a := range small(2) {
		for _, b := range small(2) {
			for _, c := range small(2) {
				holdWhatFollows(t, []api.Span{a, b, c})
				holdWidths(t, []api.Span{a, b, c})
			}
		}
	}
}

// P4.3: what is in common, by the numbers themselves.
func TestMeetOfAllSmall(t *testing.T) {
	for _, a := range small(3) {
		for _, b := range small(3) {
			var common hull
			for v := int64(-3); v <= 3; v++ {
				if span.Has(a, v) && span.Has(b, v) {
					common.take(v)
				}
			}
			want := api.ErrEmpty
			if common.some {
				want = api.OK
			}
			got, e := span.Meet(a, b)
			hold(t, "Meet", got, e, common.Span, want)
		}
	}
}

// R3: what is handed in stays as it is, the room behind its end, too.
func TestRowsStayAsTheyAre(t *testing.T) {
	for _, x := range rows() {
		for length := range 4 {
			room := []api.Span{of(4, 9), of(2, 8), of(6, 7), of(1, 0)}
			before := slices.Clone(room)
			x.call(room[:length]...)
			if !slices.Equal(room, before) {
				t.Errorf("%s: the row became %v", x.name, room)
			}
		}
	}
}
