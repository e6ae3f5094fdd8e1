package segcode

import (
	"yearbook/api"
	"yearbook/runs"
	"yearbook/seg"
	"yearbook/vary"
)

// place is where bytes are read.
type place struct {
	bytes []byte
	next  int
}

// reader reads a segment, number by number. What cannot be read leaves it by a panic, with the error.
type reader struct{ place }

// unless leaves the reading, but if all is as it should be.
func unless(is bool, e api.Errno) {
	if !is {
		panic(e)
	}
}

// got tells the next number.
func got[N int64 | uint64](r *reader, get func(b []byte, at int) (N, int, api.Errno)) N {
	n, next, e := get(r.bytes, r.next)
	unless(e == api.OK, e)
	r.next = next
	return n
}

// plain tells the next number, that is without a sign, and in a span.
func (r *reader) plain(least, most uint64) int64 {
	n := got(r, vary.GetU)
	unless(least <= n && n <= most, api.ErrForm)
	return int64(n)
}

func (r *reader) signed() int64 {
	return got(r, vary.Get)
}

func (r *reader) segment() api.Seg {
	var s api.Seg
	s.Kind = r.kind()
	s.Err = r.plain(0, api.MaxEps)
	s.Runs = r.runs()
	if s.Kind == api.SegRaw {
		s.Raw = r.raw(runs.Count(s.Runs))
	} else {
		s.Line = r.line(s.Kind)
	}
	unless(seg.Check(s) == api.OK, api.ErrForm)
	return s
}

func (r *reader) kind() int {
	unless(r.next < len(r.bytes), api.ErrShort)
	kind := int(r.bytes[r.next])
	unless(api.SegFlat <= kind && kind <= api.SegRaw, api.ErrForm)
	r.next++
	return kind
}

func (r *reader) runs() []api.Run {
	var l []api.Run
	ahead := int64(0)
	for range r.plain(1, api.MaxSegPoints) {
		run := r.run(ahead)
		ahead = last(run)
		unless(ahead <= api.MaxTime, api.ErrForm)
		l = append(l, run)
	}
	unless(runs.Check(l) == api.OK, api.ErrForm)
	return l
}

func (r *reader) run(ahead int64) api.Run {
	var run api.Run
	run.From = ahead + r.plain(0, api.MaxTime)
	run.Count = int(r.plain(1, api.MaxSegPoints))
	if run.Count > 1 {
		run.Step = r.plain(0, api.MaxTime)
	}
	return run
}

// line tells what a Kind's line has; what is not told of it is that of a line that does not rise.
func (r *reader) line(kind int) api.Line {
	x := api.Line{D: 1}
	switch kind {
	case api.SegFree:
		x.R = r.plain(0, api.MaxTime)
		fallthrough
	case api.SegTilt:
		x.N = r.signed()
		x.D = r.plain(0, api.MaxTime)
		fallthrough
	case api.SegFlat:
		x.A = r.signed()
	}
	return x
}

// raw adds up what each number is more than the one ahead of it. A sum that leaves int64 comes back far beyond what a value may be.
func (r *reader) raw(count int) []int64 {
	var l []int64
	v := int64(0)
	for range count {
		v += r.signed()
		unless(-api.MaxBack <= v && v <= api.MaxBack, api.ErrForm)
		l = append(l, v)
	}
	return l
}
