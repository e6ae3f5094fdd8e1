package merge

import (
	"yearbook/api"
	"yearbook/runs"
	"yearbook/seg"
)

// was is what segments say that may be, ahead of being put together, time by time: their values, how far the readings may be from these, and the bands.
type was struct {
	points []api.Point
	errs   []int64
	bands  []api.Band
}

// whatWas is asked of segments that may be, one behind the other, and of a bound for them.
func whatWas(eps int64, l ...api.Seg) was {
	var w was
	for _, s := range l {
		points, _ := seg.Points(s)
		for _, p := range points {
			w.points = append(w.points, p)
			w.errs = append(w.errs, s.Err)
			w.bands = append(w.bands, around(p, eps-s.Err))
		}
	}
	return w
}

// around tells a point's band, by what is left of the bound: no more than may be told.
func around(p api.Point, left int64) api.Band {
	return api.Band{T: p.T, Lo: max(p.V-left, -api.MaxBack), Hi: min(p.V+left, api.MaxBack)}
}

// far tells how far the readings may be from a segment of the same times.
func (w was) far(s api.Seg) int64 {
	far := int64(0)
	points, _ := seg.Points(s)
	for i, p := range points {
		old := w.points[i].V
		far = max(far, w.errs[i]+max(p.V-old, old-p.V))
	}
	return far
}

func (w was) values() []int64 {
	var l []int64
	for _, p := range w.points {
		l = append(l, p.V)
	}
	return l
}

// follows tells whether b's times are all behind those of a, if both may be.
func follows(a, b api.Seg) bool {
	last, _ := runs.At(a.Runs, seg.Count(a)-1)
	return b.Runs[0].From > last
}
