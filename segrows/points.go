package segrows

import (
	"yearbook/api"
	"yearbook/bandrows"
)

// LongPoints tells rows of many points that climb, fall and wander, about 0 and about the ends of what a value may be.
func LongPoints() [][]api.Point {
	var l [][]api.Point
	below := bandrows.Below(13)
	for _, n := range []int{9, 31, 32} {
		for _, climb := range []int64{0, 3, -7} {
			for _, wander := range []int64{1, 3, 50, 4000} {
				for _, middle := range []int64{0, api.MaxValue - 5000, 5000 - api.MaxValue} {
					for _, gap := range []int64{1, 4} {
						var row []api.Point
						at := below(5)
						for range n {
							row = append(row, api.Point{T: at, V: middle + climb*at + below(wander)})
							at += 1 + below(gap)
						}
						l = append(l, row)
					}
				}
			}
		}
	}
	return l
}
