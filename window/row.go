package window

import (
	"iter"
	"slices"

	"yearbook/api"
)

// row is points that may be, or a part of them, and their bands.
type row struct {
	points []api.Point
	bands  []api.Band
}

// ofPoints hands points to what tells something of them, if they and the bound may be.
func ofPoints[T any](l []api.Point, eps int64, tell func(r row) (T, api.Errno)) (T, api.Errno) {
	var none T
	if e := Check(l); e != api.OK {
		return none, e
	}
	if eps < 0 || eps > api.MaxEps {
		return none, api.ErrEps
	}
	return tell(rowOf(l, eps))
}

func rowOf(l []api.Point, eps int64) row {
	r := row{points: slices.Clone(l)}
	for _, p := range l {
		r.bands = append(r.bands, api.Band{T: p.T, Lo: p.V - eps, Hi: p.V + eps})
	}
	return r
}

// parts tells the parts of a row, one behind the other, by how many points each has.
func (r row) parts(counts []int) iter.Seq[row] {
	return func(yield func(part row) bool) {
		from := 0
		for _, n := range counts {
			to := from + n
			if !yield(row{r.points[from:to:to], r.bands[from:to:to]}) {
				return
			}
			from = to
		}
	}
}

// ofEach tells what comes of each, in their order; if nothing comes of one, the first such one's error is told alone.
func ofEach[P, T any](all iter.Seq[P], come func(one P) (T, api.Errno)) ([]T, api.Errno) {
	var l []T
	e := api.OK
coming:
	for one := range all {
		var came T
		came, e = come(one)
		switch {
		case e != api.OK:
			l = nil
			break coming
		default:
			l = append(l, came)
		}
	}
	return l, e
}

func times(l []api.Point) []int64 {
	var all []int64
	for _, p := range l {
		all = append(all, p.T)
	}
	return all
}

func values(l []api.Point) []int64 {
	var all []int64
	for _, p := range l {
		all = append(all, p.V)
	}
	return all
}

func isBeyond(p api.Point) bool {
	return p.V < -api.MaxValue || p.V > api.MaxValue
}
