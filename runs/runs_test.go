package runs_test

import (
	"math"
	"slices"
	"testing"

	"yearbook/api"
	"yearbook/runs"
)

// universes are the times out of which all rows are chosen.
func universes() [][]int64 {
	const m = api.MaxTime
	return [][]int64{
		{0, 1, 2, 3, 4, 5, 6, 7, 8, 9},
		{m - 9, m - 8, m - 7, m - 6, m - 5, m - 4, m - 3, m - 2, m - 1, m},
		{0, 1, 2, 4, 8, 12, 16, 1 << 47, m - 1, m},
		{3, 5, 7, 20, 21, 22, 50, 1000, 1001, 1950},
	}
}

// rows tells all rows of one time and more out of a universe.
func rows(universe []int64) [][]int64 {
	var l [][]int64
	for bits := 1; bits < 1<<len(universe); bits++ {
		var row []int64
		for i, t := range universe {
			if bits>>i&1 == 1 {
				row = append(row, t)
			}
		}
		l = append(l, row)
	}
	return l
}

// laid goes by the chapter's own words: from its first time on each run is as long as it can be.
func laid(times []int64) []api.Run {
	var l []api.Run
	for i := 0; i < len(times); {
		r := api.Run{From: times[i], Count: 1}
		if i+1 < len(times) {
			r.Step = times[i+1] - times[i]
		}
		for i+r.Count < len(times) && times[i+r.Count]-times[i+r.Count-1] == r.Step {
			r.Count++
		}
		l = append(l, r)
		i += r.Count
	}
	return l
}

func even(from, step int64, n int) []int64 {
	var l []int64
	for i := range n {
		l = append(l, from+int64(i)*step)
	}
	return l
}

// uneven is n times of which no three, one behind the other, are as far apart.
func uneven(n int) []int64 {
	var l []int64
	for i, t := 0, int64(0); i < n; i++ {
		l = append(l, t)
		t += int64(1 + i%2)
	}
	return l
}

// noRuns are wrong each in one way.
func noRuns() [][]api.Run {
	long := make([]api.Run, 0, 129)
	for i := range 129 {
		long = append(long, api.Run{From: int64(i*i*100 + i), Step: 1, Count: 2})
	}
	return [][]api.Run{
		nil,
		{},
		{{From: 3, Step: 2, Count: 0}},
		{{}},
		{{From: 3, Step: 2, Count: -1}},
		{{From: 3, Step: 2, Count: math.MinInt}},
		{{From: 3, Step: 1, Count: 257}},
		{{From: 3, Step: 1, Count: math.MaxInt}},
		{{From: 3, Step: 1, Count: 200}, {From: 1000, Step: 1, Count: 57}},
		{{From: 3, Step: 1, Count: math.MaxInt}, {From: 1000, Step: 1, Count: math.MaxInt}, {From: 5000, Step: 1, Count: 9}},
		{{From: 3, Step: 1, Count: 255}, {From: 1000, Step: 1, Count: 2}},
		{{From: 3, Step: 1, Count: 256}, {From: 1000, Count: 1}},
		long,
		{{From: 3, Step: 0, Count: 2}},
		{{From: 3, Step: -1, Count: 2}},
		{{From: 3, Step: math.MinInt64, Count: 2}},
		{{From: 3, Step: math.MaxInt64, Count: 2}},
		{{From: 0, Step: api.MaxTime + 1, Count: 2}},
		{{From: 0, Step: 1 << 62, Count: 5}},
		{{From: 7, Step: 1 << 63 / 3, Count: 4}},
		{{From: 3, Step: 1, Count: 1}},
		{{From: 3, Step: -1, Count: 1}},
		{{From: -1, Step: 1, Count: 3}},
		{{From: -1, Count: 1}},
		{{From: math.MinInt64, Count: 1}},
		{{From: math.MaxInt64, Count: 1}},
		{{From: math.MaxInt64, Step: 1, Count: 2}},
		{{From: api.MaxTime + 1, Count: 1}},
		{{From: api.MaxTime, Step: 1, Count: 2}},
		{{From: 1, Step: api.MaxTime, Count: 2}},
		{{From: 3, Step: 2, Count: 2}, {From: 5, Count: 1}},
		{{From: 3, Step: 2, Count: 2}, {From: 4, Count: 1}},
		{{From: 3, Step: 2, Count: 2}, {From: 3, Step: 1, Count: 2}},
		{{From: 3, Step: 2, Count: 2}, {From: 0, Count: 1}},
		{{From: 3, Step: 2, Count: 2}, {From: 7, Count: 1}},
		{{From: 3, Step: 2, Count: 2}, {From: 7, Step: 9, Count: 4}},
		{{From: 3, Count: 1}, {From: 7, Count: 1}},
		{{From: 3, Count: 1}, {From: 7, Step: 1, Count: 2}},
		{{From: 0, Step: 1, Count: 3}, {From: 10, Count: 1}, {From: 20, Step: 1, Count: 2}},
		{{From: 0, Step: 1, Count: 3}, {From: 10, Step: 1, Count: 3}, {From: 20, Step: 0, Count: 2}},
	}
}

func TestTimesAndBack(t *testing.T) {
	// P7.1, P7.5: times have the runs that the words say, and come back from them.
	for _, universe := range universes() {
		for _, row := range rows(universe) {
			holdBack(t, row)
		}
	}
	holdBack(t, []int64{0, api.MaxTime})
	for _, n := range []int{1, 2, 3, 255, 256} {
		holdBack(t, uneven(n))
		holdBack(t, even(0, 1, n))
		holdBack(t, even(api.MaxTime-int64(n-1)*1000, 1000, n))
		holdBack(t, append(even(0, 7, n-1), 1<<40))
		holdBack(t, append([]int64{0}, even(1<<40, 7, n-1)...))
	}
}

func holdBack(t *testing.T, row []int64) {
	t.Helper()
	l, e := runs.Of(row)
	if want := laid(row); e != api.OK || !slices.Equal(l, want) {
		t.Fatalf("Of(%v): %v %d, not %v", row, l, e, want)
	}
	if e := runs.Check(l); e != api.OK {
		t.Errorf("Check(%v): %d", l, e)
	}
	if back, e := runs.Times(l); e != api.OK || !slices.Equal(back, row) {
		t.Errorf("Times(%v): %v %d, not %v", l, back, e, row)
	}
	if n := runs.Count(l); n != len(row) {
		t.Errorf("Count(%v): %d, not %d", l, n, len(row))
	}
}

func TestEvenTimesAreOneRun(t *testing.T) {
	// P7.5
	for _, step := range []int64{1, 2, 60, 999_983, api.MaxTime / 255} {
		for _, n := range []int{2, 3, 17, 255, 256} {
			want := []api.Run{{From: api.MaxTime - int64(n-1)*step, Step: step, Count: n}}
			if l, e := runs.Of(even(want[0].From, step, n)); e != api.OK || !slices.Equal(l, want) {
				t.Errorf("Of %d times, %d apart: %v %d", n, step, l, e)
			}
		}
	}
	if l, e := runs.Of([]int64{api.MaxTime}); e != api.OK || !slices.Equal(l, []api.Run{{From: api.MaxTime, Count: 1}}) {
		t.Errorf("Of the last time: %v %d", l, e)
	}
}

func TestOfNoTimes(t *testing.T) {
	// P7.1
	wrong := [][]int64{
		nil, {}, uneven(257), even(0, 1, 257), even(5, 3, 100_000),
		{-1}, {-1, 0}, {math.MinInt64}, {math.MinInt64, 0, 1}, {math.MinInt64, math.MaxInt64},
		{api.MaxTime + 1}, {0, api.MaxTime + 1}, {math.MaxInt64}, {3, 5, math.MaxInt64},
		{3, 3}, {3, 2}, {3, 5, 5}, {3, 5, 4}, {3, 5, 7, 3}, {0, 1, 2, 10, 9}, {api.MaxTime, 0}, {0, 5, -1},
	}
	for _, row := range wrong {
		if l, e := runs.Of(row); l != nil || e != api.ErrArg {
			t.Errorf("Of(%.10v ..), %d times: %v %d", row, len(row), l, e)
		}
	}
}

// mayBe goes by what the runs come to: they may be, if their times are times, and have these runs.
func mayBe(l []api.Run) bool {
	var times []int64
	for _, r := range l {
		if r.Count < 1 {
			return false
		}
		times = append(times, even(r.From, r.Step, r.Count)...)
	}
	if len(times) == 0 || times[0] < 0 {
		return false
	}
	for i := range len(times) - 1 {
		if times[i] >= times[i+1] {
			return false
		}
	}
	return slices.Equal(laid(times), l)
}

func holdCheck(t *testing.T, l []api.Run) {
	t.Helper()
	want := api.OK
	if !mayBe(l) {
		want = api.ErrRuns
	}
	if e := runs.Check(l); e != want {
		t.Fatalf("Check(%v): %d, not %d", l, e, want)
	}
}

func smallRuns(from, most int64) []api.Run {
	var l []api.Run
	for start := from; start <= 2*most; start++ {
		for step := from; step <= most; step++ {
			for count := from; count <= most; count++ {
				l = append(l, api.Run{From: start, Step: step, Count: int(count)})
			}
		}
	}
	return l
}

func TestCheck(t *testing.T) {
	// P7.1: all small runs, alone, by twos and by threes.
	for _, a := range smallRuns(-1, 4) {
		holdCheck(t, []api.Run{a})
		for _, b := range smallRuns(-1, 4) {
			holdCheck(t, []api.Run{a, b})
		}
	}
	for _, a := range smallRuns(0, 3) {
		for _, b := range smallRuns(0, 3) {
			for _, c := range smallRuns(0, 3) {
				holdCheck(t, []api.Run{a, b, c})
			}
		}
	}
}

func TestCheckEdges(t *testing.T) {
	// P7.1
	may := [][]api.Run{
		{{From: 0, Count: 1}},
		{{From: api.MaxTime, Count: 1}},
		{{From: 0, Step: api.MaxTime, Count: 2}},
		{{From: api.MaxTime - 1, Step: 1, Count: 2}},
		{{From: 0, Step: 1, Count: 256}},
		{{From: 1, Step: api.MaxTime / 255, Count: 256}},
		{{From: 0, Step: 1, Count: 255}, {From: 300, Count: 1}},
		{{From: 0, Step: 1, Count: 200}, {From: 300, Step: 1, Count: 56}},
		{{From: 0, Step: 1, Count: 2}, {From: 3, Step: 1, Count: 2}, {From: api.MaxTime, Count: 1}},
		{{From: 0, Step: 5, Count: 2}, {From: 6, Count: 1}},
		{{From: 0, Step: 5, Count: 2}, {From: 6, Step: 4, Count: 2}},
		laid(uneven(256)),
	}
	for _, l := range may {
		if e := runs.Check(l); e != api.OK {
			t.Errorf("Check(%v): %d", l, e)
		}
	}
}

func TestNoRuns(t *testing.T) {
	// P7.1 to P7.4: of runs that may not be, ErrRuns goes ahead of all else.
	good := []api.Run{{From: 0, Step: 1, Count: 3}}
	for _, l := range noRuns() {
		if e := runs.Check(l); e != api.ErrRuns {
			t.Errorf("Check(%v): %d", l, e)
		}
		if times, e := runs.Times(l); times != nil || e != api.ErrRuns {
			t.Errorf("Times(%v): %v %d", l, times, e)
		}
		if n := runs.Count(l); n != 0 {
			t.Errorf("Count(%v): %d", l, n)
		}
		for _, i := range []int{-1, 0, 1, 1000} {
			if at, e := runs.At(l, i); at != 0 || e != api.ErrRuns {
				t.Errorf("At(%v, %d): %d %d", l, i, at, e)
			}
		}
		for _, at := range []int64{-1, 0, 3, 5, api.MaxTime} {
			if place, is := runs.Find(l, at); place != 0 || is {
				t.Errorf("Find(%v, %d): %d %v", l, at, place, is)
			}
			if below, upTo := runs.Clip(l, at, api.MaxTime); below != 0 || upTo != 0 {
				t.Errorf("Clip(%v, %d, MaxTime): %d %d", l, at, below, upTo)
			}
		}
		for _, ends := range [][2]int{{0, 1}, {1, 0}, {-1, 3}, {0, 1000}} {
			if cut, e := runs.Cut(l, ends[0], ends[1]); cut != nil || e != api.ErrRuns {
				t.Errorf("Cut(%v, %v): %v %d", l, ends, cut, e)
			}
			if cut, e := runs.Pieces(l, ends[0], ends[1]); cut != nil || e != api.ErrRuns {
				t.Errorf("Pieces(%v, %v): %v %d", l, ends, cut, e)
			}
		}
		for _, pair := range [][2][]api.Run{{l, good}, {good, l}, {l, l}, {l, nil}, {nil, l}} {
			if both, e := runs.Join(pair[0], pair[1]); both != nil || e != api.ErrRuns {
				t.Errorf("Join(%v, %v): %v %d", pair[0], pair[1], both, e)
			}
		}
	}
}

func TestAtAndFind(t *testing.T) {
	// P7.2
	for _, universe := range universes() {
		for _, row := range rows(universe) {
			holdPlaces(t, row, universe)
		}
	}
	holdPlaces(t, uneven(256), even(0, 1, 500))
	holdPlaces(t, even(api.MaxTime-2550, 10, 256), even(api.MaxTime-2550, 1, 2551))
}

func holdPlaces(t *testing.T, row, asked []int64) {
	t.Helper()
	l := laid(row)
	for i, want := range row {
		if at, e := runs.At(l, i); at != want || e != api.OK {
			t.Fatalf("At(%v, %d): %d %d, not %d", l, i, at, e, want)
		}
	}
	for _, i := range []int{-1, len(row), len(row) + 1, 256, math.MinInt, math.MaxInt} {
		if at, e := runs.At(l, i); at != 0 || e != api.ErrNone {
			t.Fatalf("At(%v, %d): %d %d", l, i, at, e)
		}
	}
	for _, at := range append([]int64{-1, 10, api.MaxTime + 1, math.MinInt64, math.MaxInt64}, asked...) {
		want := max(slices.Index(row, at), 0)
		if place, is := runs.Find(l, at); place != want || is != slices.Contains(row, at) {
			t.Fatalf("Find(%v, %d): %d %v", l, at, place, is)
		}
	}
}

func TestClip(t *testing.T) {
	// P7.2
	for _, universe := range universes() {
		for _, row := range rows(universe) {
			holdClip(t, row, universe)
		}
	}
	holdClip(t, uneven(256), even(0, 7, 60))
}

func holdClip(t *testing.T, row, asked []int64) {
	t.Helper()
	l := laid(row)
	ends := append([]int64{-1, 10, api.MaxTime + 1, math.MinInt64, math.MaxInt64}, asked...)
	for _, a := range ends {
		wantBelow := len(slices.DeleteFunc(slices.Clone(row), func(t int64) bool { return t >= a }))
		for _, b := range ends {
			wantUpTo := len(slices.DeleteFunc(slices.Clone(row), func(t int64) bool { return t > b }))
			if wantUpTo < wantBelow {
				wantUpTo = wantBelow
			}
			if below, upTo := runs.Clip(l, a, b); below != wantBelow || upTo != wantUpTo {
				t.Fatalf("Clip(%v, %d, %d): %d %d, not %d %d", l, a, b, below, upTo, wantBelow, wantUpTo)
			}
		}
	}
}

// trimmed goes time by time: what a run has of the places from i to j is told by what it has of each.
func trimmed(l []api.Run, i, j int) []api.Run {
	var row []api.Run
	place := 0
	for _, r := range l {
		piece := api.Run{Step: r.Step}
		for _, t := range even(r.From, r.Step, r.Count) {
			if i <= place && place < j {
				if piece.Count == 0 {
					piece.From = t
				}
				piece.Count++
			}
			place++
		}
		if piece.Count > 0 {
			row = append(row, piece)
		}
	}
	return row
}

func TestCutAndPieces(t *testing.T) {
	// P7.3, P7.4; P7.5: what is cut at a place, and joined, is as it was.
	for _, universe := range universes() {
		for _, row := range rows(universe) {
			holdCut(t, row)
		}
	}
	holdCut(t, append(even(0, 3, 30), even(100, 1, 20)...))
	for _, row := range [][]int64{even(api.MaxTime-255, 1, 256), uneven(256)} {
		for _, ends := range [][2]int{{0, 256}, {0, 1}, {255, 256}, {1, 255}, {100, 102}} {
			holdOneCut(t, row, laid(row), ends[0], ends[1])
		}
	}
}

func holdCut(t *testing.T, row []int64) {
	t.Helper()
	l := laid(row)
	for i := -1; i <= len(row)+1; i++ {
		for j := -1; j <= len(row)+1; j++ {
			holdOneCut(t, row, l, i, j)
		}
	}
	for _, ends := range [][2]int{{math.MinInt, math.MaxInt}, {0, math.MaxInt}, {math.MinInt, 1}, {math.MaxInt, math.MinInt}, {math.MaxInt, math.MaxInt}} {
		holdOneCut(t, row, l, ends[0], ends[1])
	}
	for k := 1; k < len(row); k++ {
		low, _ := runs.Cut(l, 0, k)
		high, _ := runs.Cut(l, k, len(row))
		if both, e := runs.Join(low, high); e != api.OK || !slices.Equal(both, l) {
			t.Fatalf("%v cut at %d: %v and %v, and joined: %v %d", l, k, low, high, both, e)
		}
	}
}

func holdOneCut(t *testing.T, row []int64, l []api.Run, i, j int) {
	t.Helper()
	var wantCut, wantPieces []api.Run
	want := api.ErrArg
	if 0 <= i && i < j && j <= len(row) {
		wantCut, wantPieces, want = laid(row[i:j]), trimmed(l, i, j), api.OK
	}
	if cut, e := runs.Cut(l, i, j); e != want || !slices.Equal(cut, wantCut) || e != api.OK && cut != nil {
		t.Fatalf("Cut(%v, %d, %d): %v %d, not %v %d", l, i, j, cut, e, wantCut, want)
	}
	if row, e := runs.Pieces(l, i, j); e != want || !slices.Equal(row, wantPieces) || e != api.OK && row != nil {
		t.Fatalf("Pieces(%v, %d, %d): %v %d, not %v %d", l, i, j, row, e, wantPieces, want)
	}
}

func TestJoin(t *testing.T) {
	// P7.3
	for _, a := range rows([]int64{0, 1, 2, 3, 4, 6, 8}) {
		for _, b := range rows([]int64{1, 2, 4, 5, 6, 8, 10}) {
			holdJoin(t, a, b)
		}
	}
	for _, n := range []int{1, 2, 128, 254, 255, 256} {
		for _, m := range []int{1, 2, 3, 128, 129, 256} {
			holdJoin(t, uneven(n), even(1000, 1, m))
			holdJoin(t, even(0, 1, n), even(int64(n), 1, m))
			holdJoin(t, even(0, 1, n), even(int64(n-1), 1, m))
		}
	}
	holdJoin(t, []int64{0}, []int64{api.MaxTime})
	holdJoin(t, []int64{api.MaxTime}, []int64{0})
	holdJoin(t, []int64{api.MaxTime}, []int64{api.MaxTime})
}

func holdJoin(t *testing.T, a, b []int64) {
	t.Helper()
	var wantRuns []api.Run
	want := api.ErrArg
	if b[0] > a[len(a)-1] && len(a)+len(b) <= 256 {
		wantRuns, want = laid(append(slices.Clone(a), b...)), api.OK
	}
	if both, e := runs.Join(laid(a), laid(b)); e != want || !slices.Equal(both, wantRuns) || e != api.OK && both != nil {
		t.Fatalf("Join(%v, %v): %v %d, not %v %d", laid(a), laid(b), both, e, wantRuns, want)
	}
}

// roomy is a row with room behind it, in which something stands.
func roomy[T any](row []T, behind T) []T {
	l := append(slices.Clone(row), behind, behind, behind)
	return l[:len(row)]
}

// R3: what is handed in stays as it is, the room behind it, too, and what is answered is new memory.
func TestNothingIsShared(t *testing.T) {
	mark := api.Run{From: -7, Step: -7, Count: -7}
	times := roomy([]int64{3, 5, 7, 20, 21, 50}, -7)
	l := roomy(laid(times), mark)
	far := roomy([]api.Run{{From: 100, Step: 5, Count: 4}, {From: 200, Count: 1}}, mark)
	keptTimes, keptRuns, keptFar := slices.Clone(times[:9]), slices.Clone(l[:6]), slices.Clone(far[:5])
	ask := func() ([][]api.Run, []int64) {
		of, _ := runs.Of(times)
		whole, _ := runs.Cut(l, 0, 6)
		cut, _ := runs.Cut(l, 1, 4)
		both, _ := runs.Join(l, far)
		all, _ := runs.Pieces(l, 0, 6)
		head, _ := runs.Pieces(l, 0, 3)
		tail, _ := runs.Pieces(l, 3, 6)
		back, _ := runs.Times(l)
		runs.Clip(l, 4, 20)
		runs.Find(l, 20)
		return [][]api.Run{of, whole, cut, both, all, head, tail}, back
	}
	first, firstTimes := ask()
	kept, keptBack := make([][]api.Run, len(first)), slices.Clone(firstTimes)
	for i, row := range first {
		kept[i] = slices.Clone(row)
		row = append(row, mark)
		for j := range row[:cap(row)] {
			row[:cap(row)][j] = mark
		}
	}
	for i := range firstTimes[:cap(firstTimes)] {
		firstTimes[:cap(firstTimes)][i] = -9
	}
	second, secondTimes := ask()
	for i, row := range second {
		if !slices.Equal(row, kept[i]) {
			t.Errorf("asked again, %d: %v, not %v", i, row, kept[i])
		}
	}
	if !slices.Equal(secondTimes, keptBack) {
		t.Errorf("Times, asked again: %v", secondTimes)
	}
	if !slices.Equal(times[:9], keptTimes) || !slices.Equal(l[:6], keptRuns) || !slices.Equal(far[:5], keptFar) {
		t.Errorf("what was handed in: %v %v %v", times[:9], l[:6], far[:5])
	}
}

// The chapter's examples, and what stands beside them.
func TestExamples(t *testing.T) {
	it := []api.Run{{From: 3, Step: 2, Count: 3}, {From: 20, Step: 1, Count: 2}, {From: 50, Count: 1}}
	if l, e := runs.Of([]int64{3, 5, 7, 20, 21, 50}); e != api.OK || !slices.Equal(l, it) {
		t.Errorf("Of: %v %d", l, e)
	}
	if place, is := runs.Find(it, 3); place != 0 || !is {
		t.Errorf("Find(3): %d %v", place, is)
	}
	if below, upTo := runs.Clip(it, 21, 5); below != 4 || upTo != 4 {
		t.Errorf("Clip(21, 5): %d %d", below, upTo)
	}
	if l, e := runs.Cut(it, 2, 5); e != api.OK || !slices.Equal(l, []api.Run{{From: 7, Step: 13, Count: 2}, {From: 21, Count: 1}}) {
		t.Errorf("Cut(2, 5): %v %d", l, e)
	}
	if l, e := runs.Pieces(it, 1, 2); e != api.OK || !slices.Equal(l, []api.Run{{From: 5, Step: 2, Count: 1}}) {
		t.Errorf("Pieces(1, 2): %v %d", l, e)
	}
	if l, e := runs.Pieces(it, 2, 6); e != api.OK || !slices.Equal(l, []api.Run{{From: 7, Step: 2, Count: 1}, {From: 20, Step: 1, Count: 2}, {From: 50, Count: 1}}) {
		t.Errorf("Pieces(2, 6): %v %d", l, e)
	}
	if l, e := runs.Join([]api.Run{{From: 5, Count: 1}}, []api.Run{{From: 9, Step: 4, Count: 2}}); e != api.OK || !slices.Equal(l, []api.Run{{From: 5, Step: 4, Count: 3}}) {
		t.Errorf("Join: %v %d", l, e)
	}
}
