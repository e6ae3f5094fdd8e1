package merge

import (
	"cmp"
	"iter"
	"slices"

	"yearbook/api"
	"yearbook/pmc"
	"yearbook/runs"
	"yearbook/seg"
	"yearbook/segcode"
	"yearbook/slide"
	"yearbook/swing"
)

// way is how a line is drawn through bands.
type way struct {
	line func(l []api.Band) (api.Line, api.Errno)
}

func ways() [api.WayRaw + 1]way {
	return [...]way{
		api.WayFlat: {constant},
		api.WayTilt: {swing.Fit},
		api.WayFree: {slide.Fit},
		api.WayRaw:  {none},
	}
}

func constant(l []api.Band) (api.Line, api.Errno) {
	v, e := pmc.Fit(l)
	return api.Line{A: v, D: 1}, e
}

// none is the line of values: they go through all bands, as these lie around them.
func none(l []api.Band) (api.Line, api.Errno) {
	return api.Line{}, api.OK
}

// choice is a segment that could stand in the place of both, and how many bytes it has.
type choice struct {
	api.Seg
	size int
}

// joiner puts two segments together, by what they said.
type joiner struct {
	was
	runs []api.Run
}

// joinerOf is asked of two that may be, the one behind the other, with few enough times: so they can be joined.
func joinerOf(a, b api.Seg, eps int64) joiner {
	all, _ := runs.Join(a.Runs, b.Runs)
	return joiner{whatWas(eps, a, b), all}
}

// put tells what comes of a way's line. As that goes through the bands, the segment may be: so no error comes.
func (j joiner) put(x api.Line) choice {
	var s api.Seg
	if x == (api.Line{}) {
		s, _ = seg.Raw(j.runs, j.values(), 0)
	} else {
		s, _ = seg.Of(j.runs, x, 0)
	}
	s.Err = j.far(s)
	size, _ := segcode.Size(s)
	return choice{s, size}
}

// through tells what is put in the place of bands in each way that goes through them, in the order in which the ways are named.
func through(l []api.Band, put func(x api.Line) choice) iter.Seq[choice] {
	return func(yield func(c choice) bool) {
		all := ways()
		for _, w := range all[api.WayFlat:] {
			if x, e := w.line(l); e == api.OK && !yield(put(x)) {
				return
			}
		}
	}
}

// best tells the first choice of the fewest bytes. Those behind one that has as few as there can be are not asked: lines anywhere are dear to find.
func (j joiner) best() choice {
	var came []choice
	fewest := j.fewest()
coming:
	for c := range through(j.bands, j.put) {
		came = append(came, c)
		if c.size == fewest {
			break coming
		}
	}
	return least(came...)
}

// fewest tells how many bytes any segment of these times has at the least: it says no less of how far the readings may be than both did, and one number besides.
func (j joiner) fewest() int {
	size, _ := segcode.Size(api.Seg{Kind: api.SegFlat, Runs: j.runs, Line: api.Line{D: 1}, Err: slices.Max(j.errs)})
	return size
}

// least tells the first one of the least size.
func least(l ...choice) choice {
	return slices.MinFunc(l, func(a, b choice) int { return cmp.Compare(a.size, b.size) })
}
