package seg

import (
	"slices"

	"yearbook/api"
	"yearbook/fsum"
	"yearbook/line"
	"yearbook/runs"
	"yearbook/wide"
)

// kind is what a Kind says of a segment: whether it has what its values are told by; its value at a place, and the time of that; what the values come to from one place on and ahead of another one.
type kind struct {
	has   func(s asked) bool
	value func(s asked, place int, t int64) int64
	part  func(s asked, from, to int) api.Part
}

func kinds() [api.SegRaw + 1]kind {
	sloping := kind{asked.hasLine, asked.lineValue, asked.linePart}
	return [...]kind{
		api.SegFlat: {asked.hasLine, asked.flatValue, asked.flatPart},
		api.SegTilt: sloping,
		api.SegFree: sloping,
		api.SegRaw:  {asked.hasRaw, asked.rawValue, asked.rawPart},
	}
}

// hasLine asks both ends alone: between them a line is nowhere beyond them.
func (s asked) hasLine() bool {
	if Kind(s.Line) != s.Kind || len(s.Raw) > 0 {
		return false
	}
	final, _ := runs.At(s.Runs, runs.Count(s.Runs)-1)
	_, e := line.Ends(s.Line, 0, s.since(final))
	return e == api.OK
}

func (s asked) hasRaw() bool {
	isBeyond := func(v int64) bool { return !isBack(v) }
	return s.Line == (api.Line{}) && len(s.Raw) == runs.Count(s.Runs) && !slices.ContainsFunc(s.Raw, isBeyond)
}

func (s asked) flatValue(place int, t int64) int64 {
	return s.Line.A
}

// lineValue leaves the error out: all values of a segment that may be are told.
func (s asked) lineValue(place int, t int64) int64 {
	v, _ := line.At(s.Line, s.since(t))
	return v
}

func (s asked) rawValue(place int, t int64) int64 {
	return s.Raw[place]
}

func (s asked) flatPart(from, to int) api.Part {
	n := to - from
	return api.Part{Count: n, Min: s.Line.A, Max: s.Line.A, Sum: wide.Mul(s.Line.A, int64(n))}
}

func (s asked) linePart(from, to int) api.Part {
	first, _ := runs.At(s.Runs, from)
	final, _ := runs.At(s.Runs, to-1)
	ends, _ := line.Ends(s.Line, s.since(first), s.since(final))
	pieces, _ := runs.Pieces(s.Runs, from, to)
	return api.Part{Count: to - from, Min: ends.Lo, Max: ends.Hi, Sum: together(pieces, s.along)}
}

func (s asked) rawPart(from, to int) api.Part {
	l := s.Raw[from:to]
	return api.Part{Count: len(l), Min: slices.Min(l), Max: slices.Max(l), Sum: together(l, wide.Of)}
}

// along tells what the values at a piece's times come to.
func (s asked) along(piece api.Run) api.Wide {
	sum, _ := fsum.Line(s.Line, s.since(piece.From), piece.Step, piece.Count)
	return sum
}

// since tells how far a time is behind the segment's first one.
func (s asked) since(t int64) int64 {
	return t - s.Runs[0].From
}

// together adds up what each part of a row comes to. As a segment has few values there is room: so the error is left out.
func together[T any](row []T, come func(part T) api.Wide) api.Wide {
	var sum api.Wide
	for _, part := range row {
		sum, _ = wide.Add(sum, come(part))
	}
	return sum
}
