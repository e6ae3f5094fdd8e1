package segcode

import (
	"yearbook/api"
	"yearbook/seg"
	"yearbook/vary"
)

// laying is a segment whose numbers are laid, one behind the other; take says what becomes of the bytes of each.
type laying struct {
	api.Seg
	take func(number []byte)
}

// lay hands a segment's numbers on, if it may be. The Kind is one of them: as it is small, it is one byte.
func lay(s api.Seg, take func(number []byte)) api.Errno {
	if e := seg.Check(s); e != api.OK {
		return e
	}
	l := laying{s, take}
	each(l.plain, int64(l.Kind), l.Err, int64(len(l.Runs)))
	l.runs()
	l.rest()
	return api.OK
}

// each lays a row of numbers, by what lays one.
func each(lay func(n int64), row ...int64) {
	for _, n := range row {
		lay(n)
	}
}

func (l laying) plain(n int64) {
	l.take(vary.PutU(nil, uint64(n)))
}

func (l laying) signed(n int64) {
	l.take(vary.Put(nil, n))
}

// runs ends at a run of one: of runs that may be only the last one is, and it has no Step.
func (l laying) runs() {
	ahead := int64(0)
laying:
	for _, r := range l.Runs {
		each(l.plain, r.From-ahead, int64(r.Count))
		if r.Count == 1 {
			break laying
		}
		l.plain(r.Step)
		ahead = last(r)
	}
}

// rest lays what a Kind has besides.
func (l laying) rest() {
	switch l.Kind {
	case api.SegFree:
		l.plain(l.Line.R)
		fallthrough
	case api.SegTilt:
		l.signed(l.Line.N)
		l.plain(l.Line.D)
		fallthrough
	case api.SegFlat:
		l.signed(l.Line.A)
	case api.SegRaw:
		each(l.signed, differences(l.Raw)...)
	}
}

// differences tells how much each value is more than the one ahead of it; ahead of the first one there is 0.
func differences(values []int64) []int64 {
	var l []int64
	ahead := int64(0)
	for _, v := range values {
		l = append(l, v-ahead)
		ahead = v
	}
	return l
}

func last(r api.Run) int64 {
	return r.From + int64(r.Count-1)*r.Step
}
