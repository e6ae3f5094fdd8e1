package fsum

import (
	"yearbook/api"
	"yearbook/wide"
)

// sum is what was added up so far.
type sum struct{ total api.Wide }

// add leaves the errors out: a row comes to 128 times 257 terms at most, which have room.
func (s *sum) add(what api.Wide, times int64) {
	more, _ := wide.Scale(what, times)
	s.total, _ = wide.Add(s.total, more)
}

// steps are the steps 0 to n less 1 of a, b and m, that are added up.
type steps struct {
	sum
	n, a, b, m int64
}

// come tells what the steps come to.
func come(n int, a, b api.Wide, m int64) api.Wide {
	s := cut(n, a, b, m)
	s.addAll()
	return s.total
}

// left tells what the steps' rests come to: what is rounded down less than what is not.
func left(n int, a, b api.Wide, m int64) int64 {
	var s sum
	s.add(a, pairs(int64(n)))
	s.add(b, int64(n))
	s.add(come(n, a, b, m), -m)
	rests, _ := wide.Int(s.total)
	return rests
}

// cut adds up what whole numbers there are in a and in b, so that what is left of both has room in an int64.
func cut(n int, a, b api.Wide, m int64) steps {
	s := steps{n: int64(n), m: m}
	each, restA, _ := wide.Div(a, m)
	first, restB, _ := wide.Div(b, m)
	s.add(each, pairs(s.n))
	s.add(first, s.n)
	s.a, s.b = restA, restB
	return s
}

// addAll adds up the steps of an a and a b that are not below 0. What is left, when their whole numbers are gone, grows by 1 at most from step to step: so it is counted, for each number that is reached, by how many steps. From the last step back that is an even row, too, with a and m in each other's place, and not a longer one.
func (s *steps) addAll() {
	add := s.add
turn:
	add(wide.Of(s.a/s.m), pairs(s.n))
	add(wide.Of(s.b/s.m), s.n)
	s.a, s.b = s.a%s.m, s.b%s.m
	if end := s.a*s.n + s.b; end >= s.m {
		s.n, s.b = end/s.m, end%s.m
		s.a, s.m = s.m, s.a
		goto turn
	}
}

// pairs tells what 0 to n less 1 come to.
func pairs(n int64) int64 {
	return n * (n - 1) / 2
}
