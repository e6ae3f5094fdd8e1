package window

import (
	"cmp"
	"slices"

	"yearbook/api"
	"yearbook/pmc"
	"yearbook/runs"
	"yearbook/seg"
	"yearbook/slide"
	"yearbook/swing"
)

// way is how bands are cut into parts, and what stands in the place of a part: a segment that does not say yet how far it is from the points.
type way struct {
	cut   func(l []api.Band) ([]int, api.Errno)
	stand func(part row) (api.Seg, api.Errno)
}

func ways() [api.WayRaw + 1]way {
	return [...]way{
		api.WayFlat: {pmc.Cut, lined(constant)},
		api.WayTilt: {swing.Cut, lined(swing.Fit)},
		api.WayFree: {slide.Cut, lined(slide.Fit)},
		api.WayRaw:  {whole, row.raw},
	}
}

// lined tells what makes a segment of the line that fits a part's bands. In each way one fits: so the error is left out.
func lined(fit func(l []api.Band) (api.Line, api.Errno)) func(part row) (api.Seg, api.Errno) {
	return func(part row) (api.Seg, api.Errno) {
		x, _ := fit(part.bands)
		return seg.Of(part.runs(), x, 0)
	}
}

func constant(l []api.Band) (api.Line, api.Errno) {
	v, e := pmc.Fit(l)
	return api.Line{A: v, D: 1}, e
}

func whole(l []api.Band) ([]int, api.Errno) {
	return []int{len(l)}, api.OK
}

func (r row) raw() (api.Seg, api.Errno) {
	return seg.Raw(r.runs(), values(r.points), 0)
}

// runs leaves the error out: the times of points that may be have runs.
func (r row) runs() []api.Run {
	l, _ := runs.Of(times(r.points))
	return l
}

// maker makes segments of its points, in its way.
type maker struct {
	row
	way
}

// all makes the segments of all parts. Bands of points that may be can be cut: so the error is left out.
func (m maker) all() ([]api.Seg, api.Errno) {
	counts, _ := m.cut(m.bands)
	return ofEach(m.parts(counts), m.one)
}

// one makes the segment of a part. If there were none, Far would tell so.
func (m maker) one(part row) (s api.Seg, e api.Errno) {
	s, _ = m.stand(part)
	s.Err, e = seg.Far(s, part.points)
	return s, e
}

// choice is a way, with its segments, and their size.
type choice struct {
	way  int
	segs []api.Seg
	size int
}

func (r row) choice(way int) (choice, api.Errno) {
	segs, e := r.in(way)
	if e != api.OK {
		return choice{}, e
	}
	size, e := Size(segs)
	return choice{way, segs, size}, e
}

func (r row) in(way int) ([]api.Seg, api.Errno) {
	return maker{r, ways()[way]}.all()
}

// best tells the first one of the least size.
func (r row) best() (choice, api.Errno) {
	named := []int{api.WayFlat, api.WayTilt, api.WayFree, api.WayRaw}
	choices, e := ofEach(slices.Values(named), r.choice)
	if e != api.OK {
		return choice{}, e
	}
	bySize := func(a, b choice) int { return cmp.Compare(a.size, b.size) }
	return slices.MinFunc(choices, bySize), api.OK
}
