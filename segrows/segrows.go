// Package segrows tells segments, and the points and times of which they are made, on which the layers that go through segments are tested. No layer calls it.
package segrows

import (
	"iter"
	"slices"

	"yearbook/api"
	"yearbook/bandrows"
	"yearbook/runs"
	"yearbook/seg"
)

const (
	maxBack = int64(api.MaxBack)
	maxTime = int64(api.MaxTime)
)

// Example is a SegTilt: its values at 10, 12, 14 and 16 are 5, 6, 7 and 8.
func Example() api.Seg {
	return api.Seg{
		Kind: api.SegTilt,
		Runs: []api.Run{{From: 10, Step: 2, Count: 4}},
		Line: api.Line{A: 5, N: 1, D: 2},
		Err:  3,
	}
}

// Flat is v at the times 0, 1 and 2.
func Flat(v, far int64) api.Seg {
	return api.Seg{Kind: api.SegFlat, Runs: []api.Run{{From: 0, Step: 1, Count: 3}}, Line: api.Line{A: v, D: 1}, Err: far}
}

// Numbers is a SegRaw.
func Numbers(l []api.Run, values ...int64) api.Seg {
	return api.Seg{Kind: api.SegRaw, Runs: l, Raw: values}
}

// But tells a segment that is changed.
func But(s api.Seg, change func(s *api.Seg)) api.Seg {
	s.Runs, s.Raw = slices.Clone(s.Runs), slices.Clone(s.Raw)
	change(&s)
	return s
}

// Times tells rows of times: even ones, others, and such at the ends of times.
func Times() [][]int64 {
	return [][]int64{
		{0}, {9}, {maxTime}, {10, 12, 14, 16}, {3, 5, 7, 20, 21, 50}, {0, 1, 4}, {0, maxTime},
		{maxTime - 9, maxTime - 8, maxTime - 3, maxTime - 1, maxTime}, {0, 5, maxTime - 1, maxTime},
	}
}

// LongTimes tells rows of as many times as there may be: even ones, and such of many runs.
func LongTimes() [][]int64 {
	uneven, squares := []int64(nil), []int64(nil)
	for i := range int64(256) {
		uneven = append(uneven, i*3/2)
		squares = append(squares, maxTime-(255-i)*(255-i))
	}
	return [][]int64{even(0, 1, 256), even(7, maxTime/256, 255), even(maxTime-255*60, 60, 256), uneven, squares}
}

func even(from, step int64, n int) []int64 {
	var l []int64
	for i := range int64(n) {
		l = append(l, from+i*step)
	}
	return l
}

// FarLines tells lines whose values are at the ends of what may be told, or beyond, at some of the times above.
func FarLines() []api.Line {
	const m, end = maxBack, maxTime
	return []api.Line{
		{A: m, D: 1}, {A: -m, D: 1}, {A: m, N: -2 * m, D: 1}, {A: -m, N: 2 * m, D: 1},
		{A: m, R: 1, N: -1, D: 2}, {A: m, R: 1, N: 1, D: end}, {A: m, N: 1, D: end}, {A: m, R: end - 1, N: 1, D: end},
		{A: m - 1, N: 1, D: end}, {A: m - 1, R: end - 1, N: 1, D: end}, {A: -m, N: -1, D: end}, {A: -m, R: 1, N: -1, D: end},
		{A: -m, R: 5, N: -1, D: end}, {A: -m, R: 3, N: -5, D: 7}, {A: 3, N: m / 64, D: 1}, {A: 3, N: -m / 64, D: 1},
		{A: m - 3, N: 1, D: 1}, {A: 3 - m, R: 3, N: -2, D: 5}, {A: -m, N: m/(end/2) + 1, D: 1}, {A: m - 15299, N: 1, D: 1},
		{A: m - 15300, N: 1, D: 1}, {A: m - 15301, N: 1, D: 1}, {A: 12345, R: 1000, N: -987654321987, D: 1000003},
	}
}

// Lined tells rows of times with lines, not all of which may be told there; and some lines are none.
func Lined() iter.Seq2[[]int64, api.Line] {
	return func(yield func(times []int64, x api.Line) bool) {
		short := append(bandrows.Lines(), FarLines()...)
		long := append(FarLines(), api.Line{A: 5, D: 1}, api.Line{A: -3, N: -7, D: 3}, api.Line{A: 100, R: 2, N: 22, D: 7}, api.Line{N: 1, D: 1})
		for _, times := range Times() {
			for _, x := range short {
				if !yield(times, x) {
					return
				}
			}
		}
		for _, times := range LongTimes() {
			for _, x := range long {
				if !yield(times, x) {
					return
				}
			}
		}
	}
}

// Valued tells rows of times with a value at each: small ones, and such at the ends of what may be told.
func Valued() iter.Seq2[[]int64, []int64] {
	return func(yield func(times, values []int64) bool) {
		below := bandrows.Below(11)
		for _, times := range slices.Concat(Times(), LongTimes()) {
			for _, most := range []int64{1, 5, 1000, maxBack} {
				var values []int64
				for range times {
					values = append(values, (below(2*1000+1)-1000)*(most/1000)+below(3)-1)
				}
				if most == maxBack {
					values[0], values[len(values)-1] = maxBack, -maxBack
				}
				if !yield(times, values) {
					return
				}
			}
		}
	}
}

// All tells the segments that come of these, with an Err of each length.
func All() []api.Seg {
	var l []api.Seg
	take := func(s api.Seg, e api.Errno) {
		if e == api.OK {
			l = append(l, s)
		}
	}
	far := func() int64 { return (1<<(len(l)%41) - 1) + int64(len(l)%2) }
	for times, x := range Lined() {
		row, _ := runs.Of(times)
		take(seg.Of(row, x, far()))
	}
	for times, values := range Valued() {
		row, _ := runs.Of(times)
		take(seg.Raw(row, values, far()))
	}
	return l
}
