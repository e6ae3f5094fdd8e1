package slide

import (
	"yearbook/api"
	"yearbook/line"
	"yearbook/pmc"
	"yearbook/wide"
)

// fit is a part of bands through which a line goes, with the slopes that they let.
type fit struct {
	slopes
	part []api.Band
}

// first tells the longest part that begins with the first band. That one alone lets every slope: so no part is without a band.
func first(l []api.Band) fit {
	longest := fit{slopes: every()}
taking:
	for i, later := range l {
		let := longest.slopes
		for two := range pairs(l[:i], later) {
			let = let.and(two)
			if let == (slopes{}) {
				break taking
			}
		}
		longest = fit{let, l[: i+1 : i+1]}
	}
	return longest
}

// flattest tells the line of P10.2. It goes through the first band, so that what it begins with may be told: neither call can go wrong.
func (f fit) flattest() api.Line {
	s, _ := line.Nearest(f.slopes[least], f.slopes[greatest])
	x, _ := line.Raised(f.height(s), s)
	return x
}

// height tells D times the least value at the first time from which a line of the slope is nowhere below a band. Nothing on the way is beyond 2^112: so the error is left out.
func (f fit) height(s api.Slope) api.Wide {
	var most api.Wide
	for i, b := range f.part {
		c, _ := wide.Sub(wide.Mul(b.Lo, s.D), wide.Mul(s.N, b.T-f.part[0].T))
		if i == 0 || wide.Compare(c, most) > 0 {
			most = c
		}
	}
	return most
}

// ofAll tells something of bands, if a line goes through all of them.
func ofAll[T any](l []api.Band, tell func(f fit) T) (T, api.Errno) {
	return ofBands(l, func(l []api.Band) (T, api.Errno) {
		f := first(l)
		if len(f.part) < len(l) {
			var none T
			return none, api.ErrFit
		}
		return tell(f), api.OK
	})
}

// ofBands hands bands to what tells something of them, if they may be.
func ofBands[T any](l []api.Band, tell func(l []api.Band) (T, api.Errno)) (T, api.Errno) {
	if e := pmc.Check(l); e != api.OK {
		var none T
		return none, e
	}
	return tell(l)
}
