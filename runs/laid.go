package runs

import (
	"iter"

	"yearbook/api"
)

// told tells what is made, or the error by which the making was left.
func told[T any](what func() T) (made T, e api.Errno) {
	defer func() {
		if left := recover(); left != nil {
			e = left.(api.Errno)
		}
	}()
	return what(), api.OK
}

// must leaves what is made, if it cannot be.
func must(is bool, e api.Errno) {
	if !is {
		panic(e)
	}
}

// growing is a row of runs to which times come: the last one is open still.
type growing struct {
	api.Run
	shut []api.Run
}

// take lets the open run go on, if the time is where it would; a run of one time goes on to wherever the next one is.
func (g *growing) take(t int64) {
	switch {
	case g.Count == 0:
		g.From, g.Count = t, 1
	case g.Count == 1:
		g.Step, g.Count = t-g.From, 2
	case t == nth(g.Run, g.Count):
		g.Count++
	default:
		g.shut = append(g.shut, g.Run)
		g.Run = api.Run{From: t, Count: 1}
	}
}

// lay tells the runs of all times that the parts of a row give, one part behind the other.
func lay[T any](row []T, give func(part T, take func(t int64))) []api.Run {
	var g growing
	for _, part := range row {
		give(part, g.take)
	}
	return append(g.shut, g.Run)
}

// each gives all times of runs.
func each(l []api.Run, take func(t int64)) {
	for _, t := range all(l) {
		take(t)
	}
}

// all tells the times of runs, with their places.
func all(l []api.Run) iter.Seq2[int, int64] {
	return func(yield func(place int, t int64) bool) {
		place := 0
		for _, r := range l {
			for i := range r.Count {
				if !yield(place, nth(r, i)) {
					return
				}
				place++
			}
		}
	}
}

func find(l []api.Run, sought int64) int {
seek:
	for place, t := range all(l) {
		switch {
		case t == sought:
			return place
		case t > sought:
			break seek
		}
	}
	panic(api.ErrNone)
}

// pieces trims the last run ahead of the first one: if they are one, what goes at its beginning is of what is left.
func pieces(l []api.Run, i, j int) []api.Run {
	n := count(l)
	must(0 <= i && i < j && j <= n, api.ErrArg)
	first, ahead := where(l, i)
	final, upTo := where(l, j-1)
	cut := l[first : final+1 : final+1]
	row := make([]api.Run, len(cut))
	copy(row, cut)
	row[len(row)-1].Count = upTo + 1
	row[0].From = nth(row[0], ahead)
	row[0].Count -= ahead
	return row
}

// where tells in which run a place is, and how many of that run's times are ahead of it.
func where(l []api.Run, place int) (run, ahead int) {
	for place >= l[run].Count {
		place -= l[run].Count
		run++
	}
	return run, place
}

func nth(r api.Run, i int) int64 {
	return r.From + int64(i)*r.Step
}

func last(r api.Run) int64 {
	return nth(r, r.Count-1)
}

// count tells how many times runs have, if they may be.
func count(l []api.Run) int {
	must(len(l) > 0, api.ErrRuns)
	n := 0
	for i, r := range l {
		must(isRun(r, api.MaxSegPoints-n), api.ErrRuns)
		must(i == 0 || isBehind(l[i-1], r), api.ErrRuns)
		n += r.Count
	}
	return n
}

// isRun asks for the last time behind all else: only then it is an int64.
func isRun(r api.Run, room int) bool {
	if r.Count < 1 || r.Count > room || !isTime(r.From) {
		return false
	}
	if r.Count == 1 {
		return r.Step == 0
	}
	return 1 <= r.Step && r.Step <= api.MaxTime && isTime(last(r))
}

// isBehind says whether a run may come next: the one ahead of it has a Step, and could not go on to it.
func isBehind(ahead, r api.Run) bool {
	return ahead.Count >= 2 && last(ahead) < r.From && r.From != nth(ahead, ahead.Count)
}

func areTimes(times []int64) bool {
	if len(times) < 1 || len(times) > api.MaxSegPoints {
		return false
	}
	for i, t := range times {
		if !isTime(t) || i > 0 && times[i-1] >= t {
			return false
		}
	}
	return true
}

func isTime(t int64) bool {
	return 0 <= t && t <= api.MaxTime
}
