package seg

import (
	"iter"
	"slices"

	"yearbook/api"
	"yearbook/runs"
)

// asked is a segment of which something is asked. But for mayBe, it is one that may be.
type asked struct{ api.Seg }

// ofSeg hands a segment to what tells something of it, if it may be.
func ofSeg[T any](s api.Seg, tell func(s asked) (T, api.Errno)) (T, api.Errno) {
	if e := Check(s); e != api.OK {
		var none T
		return none, e
	}
	return tell(asked{s})
}

func (s asked) mayBe() bool {
	if s.Kind < api.SegFlat || s.Kind > api.SegRaw || s.Err < 0 || s.Err > api.MaxEps {
		return false
	}
	return runs.Check(s.Runs) == api.OK && s.says().has(s)
}

func (s asked) says() kind {
	return kinds()[s.Kind]
}

// apart tells the segment without what it shares.
func (s asked) apart() (api.Seg, api.Errno) {
	s.Runs, s.Raw = slices.Clone(s.Runs), slices.Clone(s.Raw)
	return s.Seg, api.OK
}

// points tells the segment's times with its values, and their places.
func (s asked) points() iter.Seq2[int, api.Point] {
	return func(yield func(place int, p api.Point) bool) {
		value := s.says().value
		times, _ := runs.Times(s.Runs)
		for place, t := range times {
			if !yield(place, api.Point{T: t, V: value(s, place, t)}) {
				return
			}
		}
	}
}

func (s asked) far(points []api.Point) (int64, api.Errno) {
	if len(points) != runs.Count(s.Runs) {
		return 0, api.ErrArg
	}
	far, met := int64(0), 0
meeting:
	for place, own := range s.points() {
		switch p := points[place]; {
		case p.T != own.T || !isBack(p.V):
			break meeting
		case p.V > own.V:
			far = max(far, p.V-own.V)
		default:
			far = max(far, own.V-p.V)
		}
		met++
	}
	if met < len(points) {
		return 0, api.ErrArg
	}
	return far, api.OK
}

func isBack(v int64) bool {
	return -api.MaxBack <= v && v <= api.MaxBack
}
