// Package bandrows tells rows of bands, and lines, on which the layers that go through bands are tested. No layer calls it.
package bandrows

import (
	"math"
	"slices"

	"yearbook/api"
)

// Of tells a row: of each band its time and both its ends.
func Of(numbers ...int64) []api.Band {
	var l []api.Band
	for ; len(numbers) >= 3; numbers = numbers[3:] {
		l = append(l, api.Band{T: numbers[0], Lo: numbers[1], Hi: numbers[2]})
	}
	return l
}

// Same tells n bands at the times 0, 1, 2 and so on, each from lo to hi.
func Same(n int, lo, hi int64) []api.Band {
	var l []api.Band
	for t := range int64(n) {
		l = append(l, api.Band{T: t, Lo: lo, Hi: hi})
	}
	return l
}

// Below tells a function of numbers that wander, each from 0 on and below what is asked: always the same, of the same state.
func Below(state uint64) func(n int64) int64 {
	return func(n int64) int64 {
		state = state*6364136223846793005 + 1442695040888963407
		return int64(state>>33) % n
	}
}

// Spans tells all spans from -most to most.
func Spans(most int64) []api.Span {
	var l []api.Span
	for lo := -most; lo <= most; lo++ {
		for hi := lo; hi <= most; hi++ {
			l = append(l, api.Span{Lo: lo, Hi: hi})
		}
	}
	return l
}

// All tells all rows that have a band at each of the times, of one of the spans.
func All(times []int64, ends []api.Span) [][]api.Band {
	l := [][]api.Band{nil}
	for _, t := range times {
		var longer [][]api.Band
		for _, row := range l {
			for _, s := range ends {
				longer = append(longer, append(slices.Clone(row), api.Band{T: t, Lo: s.Lo, Hi: s.Hi}))
			}
		}
		l = longer
	}
	return l
}

// Wrong tells rows that are no bands, each wrong in one way.
func Wrong() [][]api.Band {
	good := Same(255, 0, 5)
	falling := Same(256, 0, 5)
	falling[255].T = 254
	l := [][]api.Band{
		nil,
		{},
		Same(257, 0, 5),
		Same(1000, -1, 1),
		make([]api.Band, 257),
		falling,
		append(slices.Clone(good), Of(255, 1, 0)...),
		append(slices.Clone(good), Of(255, 0, api.MaxBack+1)...),
		append(slices.Clone(good), Of(api.MaxTime+1, 0, 0)...),
	}
	return slices.Concat(l, wrongTimes(), wrongEnds())
}

func wrongTimes() [][]api.Band {
	return [][]api.Band{
		Of(-1, 0, 0),
		Of(-1, 0, 0, 0, 0, 0),
		Of(math.MinInt64, 0, 0),
		Of(math.MinInt64, 0, 0, math.MaxInt64, 0, 0),
		Of(api.MaxTime+1, 0, 0),
		Of(0, 0, 0, api.MaxTime+1, 0, 0),
		Of(math.MaxInt64, 0, 0),
		Of(3, 0, 0, 3, 0, 0),
		Of(3, 0, 0, 2, 0, 0),
		Of(3, 0, 0, 5, 0, 0, 4, 0, 0),
		Of(3, 0, 0, 5, 0, 0, 3, 0, 0),
		Of(api.MaxTime, 0, 0, 0, 0, 0),
		Of(3, 1, 1, 3, 2, 2),
	}
}

func wrongEnds() [][]api.Band {
	return [][]api.Band{
		Of(0, 1, 0),
		Of(0, 2, 1),
		Of(0, 0, -1),
		Of(0, api.MaxBack, -api.MaxBack),
		Of(0, math.MaxInt64, math.MinInt64),
		Of(0, 0, 5, 1, 5, 4),
		Of(0, 1, 2, 1, 3, 4, 2, 6, 5),
		Of(0, 0, 0, 1, 1, 1, 2, 5, 5, 3, 1, 0),
		Of(0, 0, api.MaxBack+1),
		Of(0, -api.MaxBack-1, 0),
		Of(0, api.MaxBack+1, api.MaxBack+1),
		Of(0, -api.MaxBack-1, -api.MaxBack-1),
		Of(0, math.MinInt64, math.MaxInt64),
		Of(0, math.MinInt64, 0),
		Of(0, 0, math.MaxInt64),
		Of(0, 1, 2, 1, 3, math.MaxInt64),
		Of(0, 1, 2, 1, 3, 4, 2, math.MinInt64, 5),
	}
}
