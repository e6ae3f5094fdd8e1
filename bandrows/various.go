package bandrows

import (
	"slices"

	"yearbook/api"
)

// Various tells small rows, long ones, and ones at the ends of times and values.
func Various() [][]api.Band {
	return slices.Concat(small(), long(), far())
}

// Few tells all rows of up to three bands that are very small, so that much can be tried on each.
func Few() [][]api.Band {
	return slices.Concat(
		All([]int64{0}, Spans(2)),
		All([]int64{6}, Spans(1)),
		All([]int64{0, 1}, Spans(2)),
		All([]int64{2, 4}, Spans(1)),
		All([]int64{0, 1, 2}, Spans(1)),
		All([]int64{0, 2, 3}, Spans(1)),
		All([]int64{1, 3, 4}, Spans(1)),
	)
}

// small tells all rows of up to five bands that are small, less so the fewer there are.
func small() [][]api.Band {
	few := []api.Span{{Lo: 0, Hi: 0}, {Lo: 0, Hi: 1}, {Lo: -1, Hi: 2}, {Lo: 2, Hi: 2}}
	return slices.Concat(
		All([]int64{0}, Spans(4)),
		All([]int64{7}, Spans(2)),
		All([]int64{0, 1}, Spans(3)),
		All([]int64{3, 5}, Spans(2)),
		All([]int64{0, 1, 2}, Spans(2)),
		All([]int64{1, 3, 4}, Spans(1)),
		All([]int64{0, 1, 2, 5}, Spans(1)),
		All([]int64{0, 2, 3, 4, 7}, few),
	)
}

// long tells rows of many bands that climb, fall and wander, about 0 and about the ends of what may be told.
func long() [][]api.Band {
	var l [][]api.Band
	below := Below(9)
	for _, n := range []int{17, 90, 256} {
		for _, width := range []int64{1, 3, 30} {
			for _, climb := range []int64{0, 2, -5} {
				for _, middle := range []int64{0, api.MaxBack - 9000, 9000 - api.MaxBack} {
					var row []api.Band
					at := below(5)
					for range n {
						lo := middle + climb*at + below(10)
						row = append(row, api.Band{T: at, Lo: lo, Hi: lo + below(width)})
						at += 1 + below(6)
					}
					l = append(l, row)
				}
			}
		}
	}
	return l
}

// far tells rows whose ends, and whose times, are as far from one another as they may be.
func far() [][]api.Band {
	const m, end = int64(api.MaxBack), int64(api.MaxTime)
	times := [][]int64{{0, end}, {0, 1}, {end - 1, end}, {0, end - 1, end}, {0, 1, end}, {5, end / 3, end / 3 * 2}}
	ends := []api.Span{{Lo: -m, Hi: -m}, {Lo: m, Hi: m}, {Lo: -m, Hi: m}, {Lo: -m, Hi: 1 - m}, {Lo: m - 1, Hi: m}, {Lo: 0, Hi: 0}}
	var l [][]api.Band
	for _, row := range times {
		l = append(l, All(row, ends)...)
	}
	return l
}
