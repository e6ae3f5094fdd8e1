package gauge

import (
	"math"
	"math/bits"

	"yearbook/api"
)

const (
	fractionBits = 52
	hidden       = 1 << fractionBits // the first digit of a usual reading, which its bits leave out
	topExponent  = 1<<11 - 1         // that of what is infinite or no number
	bias         = 1023 + fractionBits
)

// parts is a float64 by its bits: a sign, an exponent of 11 bits, a fraction of 52.
type parts struct {
	below    bool
	exponent int
	fraction uint64
}

// reading is a float64 that is asked: beside its parts stands their kind.
type reading struct {
	parts
	kind int
}

func readingOf(x float64) reading {
	b := math.Float64bits(x)
	r := reading{parts: parts{
		below:    b>>63 == 1,
		exponent: int(b >> fractionBits & topExponent),
		fraction: b & (hidden - 1),
	}}
	r.kind = kindOf(r)
	return r
}

// kindOf asks in the order of the kinds' numbers: each question counts only where those ahead of it were answered by no.
func kindOf(r reading) int {
	asked := [...]func() bool{
		func() bool { return r.exponent == topExponent && r.fraction != 0 },
		func() bool { return r.exponent == topExponent },
		func() bool { return r.exponent == 0 && r.fraction == 0 },
		func() bool { return r.exponent == 0 },
	}
	for place, is := range asked {
		if is() {
			return api.GaugeNaN + place
		}
	}
	return api.GaugeUsual
}

// value is for a scale that is one.
func (r reading) value(scale int) (int64, api.Errno) {
	switch r.kind {
	case api.GaugeNaN:
		return 0, api.ErrNaN
	case api.GaugeInf:
		return 0, api.ErrOver
	}
	whole, power := r.digits()
	far, fits := shifted(whole, power+scale)
	if !fits || far > api.MaxValue {
		return 0, api.ErrOver
	}
	if r.below {
		return -int64(far), api.OK
	}
	return int64(far), api.OK
}

// digits tells how far the reading is from 0: whole times 2^power. It is for those that are numbers and not infinite.
func (r reading) digits() (whole uint64, power int) {
	if r.exponent == 0 {
		// These have the least usual readings' power, and no hidden digit.
		return r.fraction, 1 - bias
	}
	return hidden | r.fraction, r.exponent - bias
}

// shifted tells the whole number nearest to whole times 2^power, if it has at most 64 digits.
func shifted(whole uint64, power int) (uint64, bool) {
	if power < 0 {
		return cutOff(whole, -power), true
	}
	return whole << power, bits.Len64(whole)+power <= 64
}

// cutOff takes the last n digits away, n from 1 on: to the nearest, and in the middle to the even one.
func cutOff(whole uint64, n int) uint64 {
	if n > 64 {
		// Less than a half is left, whatever the digits.
		return 0
	}
	left := whole >> n
	cut, half := whole-left<<n, uint64(1)<<(n-1)
	if cut > half || cut == half && left%2 == 1 {
		left++
	}
	return left
}

// partsOf tells the float64 nearest to v over 2^scale, and whether it is just that. It is for values and scales, all of which lie among the usual readings.
func partsOf(v int64, scale int) (parts, bool) {
	if v == 0 {
		return parts{}, true
	}
	far := uint64(max(v, -v))
	surplus := bits.Len64(far) - (fractionBits + 1)
	whole, _ := shifted(far, -surplus)
	exact := surplus <= 0 || whole<<surplus == far
	if whole == 2*hidden {
		// Rounded up, it got one digit more, and all but the first are 0.
		whole, surplus = hidden, surplus+1
	}
	return parts{v < 0, surplus - scale + bias, whole - hidden}, exact
}

func (p parts) float() float64 {
	b := uint64(p.exponent)<<fractionBits | p.fraction
	if p.below {
		b |= 1 << 63
	}
	return math.Float64frombits(b)
}
