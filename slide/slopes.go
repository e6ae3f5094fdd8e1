package slide

import (
	"iter"

	"yearbook/api"
	"yearbook/line"
)

// The places of the ends of slopes.
const (
	least = iota
	greatest
)

// slopes are all from the least to the greatest one. The zero ones are none at all, for 0 over 0 is no slope.
type slopes [2]api.Slope

// every is what one band alone lets: no slope between values that may be told is beyond it.
func every() slopes {
	return slopes{{N: -api.MaxSlope, D: 1}, {N: api.MaxSlope, D: 1}}
}

// between tells the slopes that two bands let.
func between(earlier, later api.Band) slopes {
	dt := later.T - earlier.T
	return slopes{{N: later.Lo - earlier.Hi, D: dt}, {N: later.Hi - earlier.Lo, D: dt}}
}

// pairs tells the slopes that a band lets with each of those ahead of it.
func pairs(ahead []api.Band, later api.Band) iter.Seq[slopes] {
	return func(yield func(let slopes) bool) {
		for _, earlier := range ahead {
			if !yield(between(earlier, later)) {
				return
			}
		}
	}
}

// and tells the slopes that are among both.
func (s slopes) and(other slopes) slopes {
	if isLess(s[least], other[least]) {
		s[least] = other[least]
	}
	if isLess(other[greatest], s[greatest]) {
		s[greatest] = other[greatest]
	}
	if isLess(s[greatest], s[least]) {
		return slopes{}
	}
	return s
}

// lowest tells both ends in lowest terms; on the way they need not be, for they are held against each other as they are.
func (s slopes) lowest() slopes {
	for i, end := range s {
		s[i], _ = line.Lowest(end)
	}
	return s
}

func isLess(a, b api.Slope) bool {
	order, _ := line.Compare(a, b)
	return order < 0
}
