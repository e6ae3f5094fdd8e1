package segrows

import (
	"math"
	"slices"

	"yearbook/api"
)

// Wrong tells segments that may not be, each wrong in one way.
func Wrong() []api.Seg {
	raw := Numbers(Example().Runs, 1, -2, 3, 4)
	l := []api.Seg{{}, Numbers(raw.Runs), Numbers(raw.Runs, 1, 2, 3), Numbers(nil)}
	for _, v := range []int64{maxBack + 1, -maxBack - 1, math.MaxInt64, math.MinInt64} {
		for i := range raw.Raw {
			l = append(l, But(raw, func(s *api.Seg) { s.Raw[i] = v }))
		}
		l = append(l, Flat(v, 0))
	}
	for _, s := range Good() {
		l = slices.Concat(l, otherKinds(s), otherNumbers(s))
	}
	return append(l, But(raw, func(s *api.Seg) { s.Line = api.Line{D: 1} }), But(Flat(3, 0), func(s *api.Seg) { s.Raw = []int64{3, 3, 3} }))
}

// Good tells a segment of each Kind.
func Good() []api.Seg {
	free := But(Example(), func(s *api.Seg) { s.Kind, s.Line.R = api.SegFree, 1 })
	return []api.Seg{Flat(3, 0), Example(), free, Numbers(Example().Runs, 1, -2, 3, 4)}
}

func otherKinds(s api.Seg) []api.Seg {
	var l []api.Seg
	for _, kind := range []int{0, 1, 2, 3, 4, 5, -1, 6, math.MinInt, math.MaxInt} {
		if kind != s.Kind {
			l = append(l, But(s, func(s *api.Seg) { s.Kind = kind }))
		}
	}
	return l
}

func otherNumbers(s api.Seg) []api.Seg {
	var l []api.Seg
	for _, far := range []int64{-1, api.MaxEps + 1, math.MinInt64, math.MaxInt64} {
		l = append(l, But(s, func(s *api.Seg) { s.Err = far }))
	}
	for _, row := range WrongRuns() {
		l = append(l, But(s, func(s *api.Seg) { s.Runs = row }))
	}
	for _, change := range []func(s *api.Seg){
		func(s *api.Seg) { s.Line.D -= 3 },
		func(s *api.Seg) { s.Line.D = maxTime + 1 },
		func(s *api.Seg) { s.Line.A = maxBack + 1 },
		func(s *api.Seg) { s.Line.R = -1 },
		func(s *api.Seg) { s.Line.R = s.Line.D + 1 },
		func(s *api.Seg) { s.Line.N += 1 << 62 },
		func(s *api.Seg) { s.Raw = append(s.Raw, 0) },
	} {
		l = append(l, But(s, change))
	}
	return l
}

// WrongRuns tells runs that may not be.
func WrongRuns() [][]api.Run {
	return [][]api.Run{
		nil, {}, {{}}, {{From: 10, Step: 2, Count: 0}}, {{From: 10, Step: 0, Count: 4}}, {{From: -10, Step: 2, Count: 4}},
		{{From: 0, Step: 1, Count: 257}}, {{From: maxTime, Step: 1, Count: 4}}, {{From: 10, Step: 2, Count: -4}},
		{{From: 10, Step: 1, Count: 2}, {From: 12, Step: 1, Count: 2}}, {{From: 10, Count: 1}, {From: 12, Step: 1, Count: 3}},
		{{From: 10, Step: 5, Count: 2}, {From: 12, Step: 1, Count: 2}}, {{From: math.MaxInt64, Step: math.MaxInt64, Count: math.MaxInt}},
	}
}
