package line

import "yearbook/api"

func checkSlopes(l ...api.Slope) api.Errno {
	for _, s := range l {
		if s.N < -api.MaxSlope || s.N > api.MaxSlope || s.D < 1 || s.D > api.MaxTime {
			return api.ErrSlope
		}
	}
	return api.OK
}

// lowest is for a slope that may be.
func lowest(s api.Slope) api.Slope {
	common := divisor(s.D, max(s.N, -s.N))
	return api.Slope{N: s.N / common, D: s.D / common}
}

// divisor tells the greatest number that divides both, of which a is above 0, and b not below it.
func divisor(a, b int64) int64 {
next:
	if b > 0 {
		a, b = b, a%b
		goto next
	}
	return a
}
