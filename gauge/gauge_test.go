package gauge_test

import (
	"cmp"
	"math"
	"math/big"
	"slices"
	"testing"

	"yearbook/api"
	"yearbook/gauge"
)

var (
	minusNought = math.Copysign(0, -1)
	infinite    = math.Inf(1)
	noNumber    = math.NaN()
)

// noScales tells what is no scale, with the neighbours of both ends first.
func noScales() []int {
	return []int{-41, 41, -1000, 1000, math.MinInt32, math.MaxInt32, math.MinInt, math.MinInt + 1, math.MaxInt}
}

// noNumbers tells what is no number, of both signs and several payloads, the quiet and the signalling.
func noNumbers() []float64 {
	var l []float64
	for _, b := range []uint64{0x7ff0000000000001, 0x7ff7ffffffffffff, 0x7ff8000000000000, 0x7ff8000000000001, 0x7fffffffffffffff} {
		l = append(l, math.Float64frombits(b), math.Float64frombits(b|1<<63))
	}
	return l
}

// chance tells numbers without any order, the same ones every time.
func chance() func() uint64 {
	bits := uint64(88172645463325252)
	return func() uint64 {
		bits ^= bits << 13
		bits ^= bits >> 7
		bits ^= bits << 17
		return bits
	}
}

// readings tells finite readings of both signs: of every step-th exponent the edges of the fraction and usual ones, and all quarters about 0.
func readings(step int) []float64 {
	next := chance()
	var l []float64
	add := func(b uint64) {
		l = append(l, math.Float64frombits(b), math.Float64frombits(b|1<<63))
	}
	for exponent := 0; exponent < 2047; exponent += step {
		for _, fraction := range []uint64{0, 1, 1 << 51, 1<<51 + 1, 1<<52 - 1, next() >> 12, next() >> 12 &^ (1<<40 - 1)} {
			add(uint64(exponent)<<52 | fraction)
		}
	}
	for quarters := range 65 {
		add(math.Float64bits(float64(quarters) / 4))
	}
	return l
}

// product tells x times 2^scale, with nothing rounded.
func product(x float64, scale int) *big.Rat {
	power := new(big.Rat).SetInt(new(big.Int).Lsh(big.NewInt(1), uint(max(scale, -scale))))
	if scale < 0 {
		power.Inv(power)
	}
	exact := new(big.Rat).SetFloat64(x)
	return exact.Mul(exact, power)
}

// wholeNear tells the whole number nearest to n, and of two the even one.
func wholeNear(n *big.Rat) *big.Int {
	twice := new(big.Int).Lsh(n.Denom(), 1)
	up := new(big.Int).Lsh(n.Num(), 1)
	up.Add(up, n.Denom())
	// The whole of n and a half, rounded down, is the nearest, but in the middle, where it is the upper one.
	whole, rest := new(big.Int).DivMod(up, twice, new(big.Int))
	if rest.Sign() == 0 && whole.Bit(0) == 1 {
		whole.Sub(whole, big.NewInt(1))
	}
	return whole
}

// wanted tells what Fixed must answer of a finite reading and a scale.
func wanted(x float64, scale int) (int64, api.Errno) {
	whole := wholeNear(product(x, scale))
	if whole.CmpAbs(big.NewInt(api.MaxValue)) > 0 {
		return 0, api.ErrOver
	}
	return whole.Int64(), api.OK
}

func holdFixed(t *testing.T, x float64, scale int) {
	t.Helper()
	want, wantErr := wanted(x, scale)
	if got, e := gauge.Fixed(x, scale); got != want || e != wantErr {
		t.Errorf("Fixed(%b, %d): %d %d, not %d %d", x, scale, got, e, want, wantErr)
	}
}

// P3.1: each kind, and the readings at which one ends and the next begins.
func TestKind(t *testing.T) {
	least := math.Ldexp(1, -1022)
	for _, x := range []struct {
		x    float64
		want int
	}{
		{infinite, api.GaugeInf}, {-infinite, api.GaugeInf},
		{0, api.GaugeNought}, {minusNought, api.GaugeNought},
		{math.SmallestNonzeroFloat64, api.GaugeTiny}, {-math.SmallestNonzeroFloat64, api.GaugeTiny},
		{math.Nextafter(least, 0), api.GaugeTiny}, {math.Nextafter(-least, 0), api.GaugeTiny},
		{least, api.GaugeUsual}, {-least, api.GaugeUsual}, {math.Nextafter(least, 1), api.GaugeUsual},
		{1, api.GaugeUsual}, {-0.1, api.GaugeUsual},
		{math.MaxFloat64, api.GaugeUsual}, {-math.MaxFloat64, api.GaugeUsual},
	} {
		if got := gauge.Kind(x.x); got != x.want {
			t.Errorf("Kind(%b): %d, not %d", x.x, got, x.want)
		}
	}
	for _, x := range noNumbers() {
		if got := gauge.Kind(x); got != api.GaugeNaN {
			t.Errorf("Kind(%x): %d", math.Float64bits(x), got)
		}
	}
}

// P3.1: one kind for each reading, by the document's words.
func TestKindOfAll(t *testing.T) {
	for _, x := range readings(1) {
		want := api.GaugeUsual
		if x == 0 {
			want = api.GaugeNought
		} else if math.Abs(x) < math.Ldexp(1, -1022) {
			want = api.GaugeTiny
		}
		if got := gauge.Kind(x); got != want {
			t.Errorf("Kind(%b): %d, not %d", x, got, want)
		}
	}
}

// P3.1: with math/big as the measure; all exponents at some scales, and all scales at some exponents.
func TestFixed(t *testing.T) {
	for _, x := range readings(1) {
		for _, scale := range []int{-40, -1, 0, 3, 40} {
			holdFixed(t, x, scale)
		}
	}
	for _, x := range readings(61) {
		for scale := -api.MaxScale; scale <= api.MaxScale; scale++ {
			holdFixed(t, x, scale)
		}
	}
}

// P3.1: at every scale the readings whose product is about a whole number, a middle, or an end of the values.
func TestFixedAboutItsEdges(t *testing.T) {
	for scale := -api.MaxScale; scale <= api.MaxScale; scale++ {
		for _, n := range []float64{0.25, 0.5, 0.75, 1, 1.5, 2, 2.5, 3.5, 7.5, 1<<20 + 0.5, 1<<51 - 0.5, 1<<51 + 1.5, 1<<52 - 0.5, 1 << 52, 1<<53 - 1, 1 << 53, 1 << 60, 1 << 61, 1 << 62, 1 << 63} {
			x := math.Ldexp(n, -scale)
			for _, near := range []float64{math.Nextafter(x, 0), x, math.Nextafter(x, infinite)} {
				holdFixed(t, near, scale)
				holdFixed(t, -near, scale)
			}
		}
	}
}

// P3.1: the edges, written out.
func TestFixedEdges(t *testing.T) {
	end := math.Ldexp(1, 61)
	for _, x := range []struct {
		x     float64
		scale int
		want  int64
		e     api.Errno
	}{
		{0, 0, 0, api.OK}, {minusNought, 40, 0, api.OK},
		{0.5, 0, 0, api.OK}, {1.5, 0, 2, api.OK}, {2.5, 0, 2, api.OK}, {3.5, 0, 4, api.OK},
		{-0.5, 0, 0, api.OK}, {-1.5, 0, -2, api.OK}, {-2.5, 0, -2, api.OK}, {-3.5, 0, -4, api.OK},
		{math.Nextafter(0.5, 0), 0, 0, api.OK}, {math.Nextafter(0.5, 1), 0, 1, api.OK},
		{math.Nextafter(2.5, 3), 0, 3, api.OK}, {math.Nextafter(-2.5, -3), 0, -3, api.OK},
		{0.3, 4, 5, api.OK}, {0.1, 40, 109951162778, api.OK}, {1000, -3, 125, api.OK}, {1004, -3, 126, api.OK},
		{1, 40, 1 << 40, api.OK}, {-1, 40, -1 << 40, api.OK}, {1, -1, 0, api.OK}, {3, -1, 2, api.OK}, {5, -1, 2, api.OK},
		{math.Ldexp(1, 39), -40, 0, api.OK}, {math.Nextafter(math.Ldexp(1, 39), infinite), -40, 1, api.OK},
		{math.Ldexp(3, 39), -40, 2, api.OK},
		{math.SmallestNonzeroFloat64, 40, 0, api.OK}, {-math.SmallestNonzeroFloat64, -40, 0, api.OK},
		{math.Ldexp(1, -1022), 40, 0, api.OK}, {math.Ldexp(1, -41), 40, 0, api.OK}, {math.Ldexp(3, -41), 40, 2, api.OK},
		{end, 0, 1 << 61, api.OK}, {-end, 0, -1 << 61, api.OK},
		{math.Nextafter(end, 0), 0, 1<<61 - 256, api.OK}, {math.Nextafter(-end, 0), 0, -1<<61 + 256, api.OK},
		{math.Nextafter(end, infinite), 0, 0, api.ErrOver}, {math.Nextafter(-end, -infinite), 0, 0, api.ErrOver},
		{end, 1, 0, api.ErrOver}, {-end, 1, 0, api.ErrOver}, {end, -1, 1 << 60, api.OK},
		{math.Ldexp(1, 21), 40, 1 << 61, api.OK}, {math.Ldexp(-1, 21), 40, -1 << 61, api.OK},
		{math.Nextafter(math.Ldexp(1, 21), infinite), 40, 0, api.ErrOver},
		{math.Ldexp(1, 101), -40, 1 << 61, api.OK}, {math.Nextafter(math.Ldexp(1, 101), infinite), -40, 0, api.ErrOver},
		// Products of 2^62, 2^63, 2^64 and beyond: where shifted digits would leave 64 bits.
		{math.Ldexp(1, 62), 0, 0, api.ErrOver}, {math.Ldexp(1, 63), 0, 0, api.ErrOver}, {math.Ldexp(1, 64), 0, 0, api.ErrOver},
		{math.Ldexp(-1, 63), 0, 0, api.ErrOver}, {math.Ldexp(1, 116), 0, 0, api.ErrOver}, {math.Ldexp(1, 300), -40, 0, api.ErrOver},
		{math.MaxFloat64, -40, 0, api.ErrOver}, {-math.MaxFloat64, 40, 0, api.ErrOver},
	} {
		if got, e := gauge.Fixed(x.x, x.scale); got != x.want || e != x.e {
			t.Errorf("Fixed(%b, %d): %d %d, not %d %d", x.x, x.scale, got, e, x.want, x.e)
		}
	}
}

// P3.1, R2: what has no value, and which error goes ahead.
func TestFixedOfWhatHasNone(t *testing.T) {
	for scale := -api.MaxScale; scale <= api.MaxScale; scale++ {
		for _, x := range noNumbers() {
			if got, e := gauge.Fixed(x, scale); got != 0 || e != api.ErrNaN {
				t.Errorf("Fixed(%x, %d): %d %d", math.Float64bits(x), scale, got, e)
			}
		}
		for _, x := range []float64{infinite, -infinite} {
			if got, e := gauge.Fixed(x, scale); got != 0 || e != api.ErrOver {
				t.Errorf("Fixed(%v, %d): %d %d", x, scale, got, e)
			}
		}
	}
	for _, scale := range noScales() {
		for _, x := range []float64{0, 1, noNumber, infinite, math.MaxFloat64} {
			if got, e := gauge.Fixed(x, scale); got != 0 || e != api.ErrArg {
				t.Errorf("Fixed(%v, %d): %d %d", x, scale, got, e)
			}
		}
	}
}

// P3.2.
func TestRow(t *testing.T) {
	over := math.Ldexp(1, 62)
	for _, x := range []struct {
		name  string
		l     []float64
		scale int
		want  []int64
		at    int
		e     api.Errno
	}{
		{"none", nil, 0, nil, 0, api.OK},
		{"an empty row", []float64{}, 40, nil, 0, api.OK},
		{"one", []float64{-2.5}, 1, []int64{-5}, 0, api.OK},
		{"several, the same ones and noughts among them", []float64{3, 1, minusNought, 1, -3}, -1, []int64{2, 0, 0, 0, -2}, 0, api.OK},
		{"wrong at first", []float64{noNumber, 1}, 0, nil, 0, api.ErrNaN},
		{"wrong in the middle", []float64{1, 2, noNumber, 4}, 0, nil, 2, api.ErrNaN},
		{"wrong at last", []float64{1, 2, 3, -infinite}, 0, nil, 3, api.ErrOver},
		{"two that are wrong", []float64{1, infinite, noNumber}, 0, nil, 1, api.ErrOver},
		{"two, the other way round", []float64{1, noNumber, infinite}, 0, nil, 1, api.ErrNaN},
		{"above the greatest", []float64{over / 2, over}, 0, nil, 1, api.ErrOver},
		{"not so by another scale", []float64{over / 2, over}, -1, []int64{1 << 60, 1 << 61}, 0, api.OK},
		{"no scale", []float64{1, 2}, 41, nil, 0, api.ErrArg},
		{"no scale, and a wrong reading", []float64{1, noNumber}, -41, nil, 0, api.ErrArg},
		{"no scale, and no row", nil, 41, nil, 0, api.ErrArg},
	} {
		got, at, e := gauge.Row(x.l, x.scale)
		if !slices.Equal(got, x.want) || at != x.at || e != x.e {
			t.Errorf("Row: %s: %v %d %d, not %v %d %d", x.name, got, at, e, x.want, x.at, x.e)
		}
	}
	for _, scale := range noScales() {
		for _, l := range [][]float64{nil, {1}, {1, noNumber}, {infinite}} {
			if got, at, e := gauge.Row(l, scale); len(got) != 0 || at != 0 || e != api.ErrArg {
				t.Errorf("Row(%v, %d): %v %d %d", l, scale, got, at, e)
			}
		}
	}
}

// P3.2: a row says what Fixed says of each, up to the first one that has no value.
func TestRowIsFixedOfEach(t *testing.T) {
	l := readings(1)
	for scale := -api.MaxScale; scale <= api.MaxScale; scale += 20 {
		for from := 0; from < len(l); from += 50 {
			row := l[from:min(from+50, len(l))]
			var want []int64
			wantAt, wantErr := 0, api.OK
			for at, x := range row {
				v, e := gauge.Fixed(x, scale)
				if e != api.OK {
					want, wantAt, wantErr = nil, at, e
					break
				}
				want = append(want, v)
			}
			if got, at, e := gauge.Row(row, scale); !slices.Equal(got, want) || at != wantAt || e != wantErr {
				t.Fatalf("Row from %d, by %d: %v %d %d, not %v %d %d", from, scale, got, at, e, want, wantAt, wantErr)
			}
		}
	}
}

// R3, R5: what is handed in stays as it is, the room behind its end, too; what is answered is new each time.
func TestRowLeavesItsRow(t *testing.T) {
	row := []float64{1, 2, 3, 4}
	first, _, _ := gauge.Row(row[:2], 0)
	first[0] = 99
	second, at, e := gauge.Row(row[:2], 0)
	if !slices.Equal(second, []int64{1, 2}) || at != 0 || e != api.OK {
		t.Errorf("Row: %v %d %d", second, at, e)
	}
	if !slices.Equal(row, []float64{1, 2, 3, 4}) {
		t.Errorf("the row became %v", row)
	}
}

// values tells whole numbers of all lengths and both signs, with the ends and what is about 2^53 and about a middle.
func values() []int64 {
	next := chance()
	l := []int64{0, api.MaxValue, api.MaxValue - 1, api.MaxValue - 127, api.MaxValue - 128, api.MaxValue - 129}
	for length := range 61 {
		for _, less := range []int64{-3, -2, -1, 0, 1, 2, 3} {
			l = append(l, 1<<length+less)
		}
		l = append(l, 1<<length|int64(next()>>(64-length)))
		if length > 53 {
			step := int64(1) << (length - 52)
			for _, middle := range []int64{1<<length + step/2, 1<<length + 3*step/2, 1<<(length+1) - step/2} {
				l = append(l, middle-1, middle, middle+1)
			}
		}
	}
	for _, v := range l {
		l = append(l, -v)
	}
	slices.Sort(l)
	return slices.Compact(l)
}

// P3.3: with math/big as the measure, which rounds to the even one, too.
func TestFloat(t *testing.T) {
	for scale := -api.MaxScale; scale <= api.MaxScale; scale++ {
		for _, v := range values() {
			exact := new(big.Rat).SetInt64(v)
			power := new(big.Rat).SetInt(new(big.Int).Lsh(big.NewInt(1), uint(max(scale, -scale))))
			if scale > 0 {
				power.Inv(power)
			}
			want, just := exact.Mul(exact, power).Float64()
			got, is, e := gauge.Float(v, scale)
			if math.Float64bits(got) != math.Float64bits(want) || is != just || e != api.OK {
				t.Errorf("Float(%d, %d): %b %v %d, not %b %v", v, scale, got, is, e, want, just)
			}
		}
	}
}

// P3.3: the edges, written out.
func TestFloatEdges(t *testing.T) {
	for _, x := range []struct {
		v     int64
		scale int
		want  float64
		just  bool
	}{
		{0, 0, 0, true}, {0, 40, 0, true}, {0, -40, 0, true},
		{-3, 1, -1.5, true}, {1, 40, math.Ldexp(1, -40), true}, {-1, -40, -math.Ldexp(1, 40), true},
		{1<<53 - 1, 0, 1<<53 - 1, true}, {1 << 53, 0, 1 << 53, true},
		{1<<53 + 1, 0, 1 << 53, false}, {1<<53 + 2, 0, 1<<53 + 2, true}, {1<<53 + 3, 0, 1<<53 + 4, false},
		{-1<<53 - 1, 0, -1 << 53, false}, {-1<<53 - 3, 0, -1<<53 - 4, false},
		{1<<54 - 1, 0, 1 << 54, false}, {1<<54 - 2, 0, 1<<54 - 2, true},
		{1<<60 + 1, 0, 1 << 60, false}, {1<<60 + 129, 0, 1<<60 + 256, false}, {1<<60 + 128, 0, 1 << 60, false}, {1<<60 + 384, 0, 1<<60 + 512, false},
		{1 << 61, 0, 1 << 61, true}, {-1 << 61, 0, -1 << 61, true}, {1<<61 - 1, 0, 1 << 61, false}, {1<<61 - 256, 0, 1<<61 - 256, true},
		{1 << 61, -40, math.Ldexp(1, 101), true}, {1 << 61, 40, math.Ldexp(1, 21), true}, {1<<61 - 1, 40, math.Ldexp(1, 21), false},
	} {
		got, is, e := gauge.Float(x.v, x.scale)
		if math.Float64bits(got) != math.Float64bits(x.want) || is != x.just || e != api.OK {
			t.Errorf("Float(%d, %d): %b %v %d, not %b %v", x.v, x.scale, got, is, e, x.want, x.just)
		}
	}
}

// P3.3, R2.
func TestFloatOfWhatHasNone(t *testing.T) {
	hold := func(v int64, scale int) {
		if got, is, e := gauge.Float(v, scale); math.Float64bits(got) != 0 || is || e != api.ErrArg {
			t.Errorf("Float(%d, %d): %v %v %d", v, scale, got, is, e)
		}
	}
	for _, v := range []int64{api.MaxValue + 1, -api.MaxValue - 1, 1 << 62, -1 << 62, math.MaxInt64, math.MinInt64, math.MinInt64 + 1} {
		for _, scale := range []int{-40, 0, 40, 41} {
			hold(v, scale)
		}
	}
	for _, scale := range noScales() {
		for _, v := range []int64{0, 1, -1, api.MaxValue} {
			hold(v, scale)
		}
	}
}

// P3.3.
func TestStep(t *testing.T) {
	for scale := -api.MaxScale; scale <= api.MaxScale; scale++ {
		if got, e := gauge.Step(scale); got != math.Ldexp(1, -scale) || e != api.OK {
			t.Errorf("Step(%d): %b %d", scale, got, e)
		}
	}
	for _, x := range []struct {
		scale int
		want  float64
	}{
		{0, 1}, {1, 0.5}, {-1, 2}, {3, 0.125}, {-40, 1099511627776}, {40, 1.0 / 1099511627776},
	} {
		if got, e := gauge.Step(x.scale); got != x.want || e != api.OK {
			t.Errorf("Step(%d): %v %d", x.scale, got, e)
		}
	}
	for _, scale := range noScales() {
		if got, e := gauge.Step(scale); got != 0 || e != api.ErrArg {
			t.Errorf("Step(%d): %v %d", scale, got, e)
		}
	}
}

// P3.4: all pairs of a rising row; of equals only the noughts are two.
func TestOrder(t *testing.T) {
	least, greatest := math.SmallestNonzeroFloat64, math.MaxFloat64
	rising := []float64{-infinite, -greatest, -1e300, -2, math.Nextafter(-1, -2), -1, -math.Ldexp(1, -1022), -2 * least, -least, 0,
		least, 2 * least, math.Ldexp(1, -1022), math.Nextafter(1, 0), 1, 2, 1e300, greatest, infinite}
	for i, a := range rising {
		for j, b := range rising {
			if got, is := gauge.Order(a, b); got != cmp.Compare(i, j) || !is {
				t.Errorf("Order(%v, %v): %d %v", a, b, got, is)
			}
		}
		want, _ := gauge.Order(a, 0)
		if got, is := gauge.Order(a, minusNought); got != want || !is {
			t.Errorf("Order(%v, -0): %d %v", a, got, is)
		}
		if got, is := gauge.Order(minusNought, a); got != -want || !is {
			t.Errorf("Order(-0, %v): %d %v", a, got, is)
		}
	}
}

// P3.4: with math/big as the measure.
func TestOrderOfMany(t *testing.T) {
	l := readings(97)
	for _, a := range l {
		for _, b := range l {
			want := new(big.Float).SetFloat64(a).Cmp(new(big.Float).SetFloat64(b))
			if got, is := gauge.Order(a, b); got != want || !is {
				t.Errorf("Order(%b, %b): %d %v, not %d", a, b, got, is, want)
			}
		}
	}
}

// P3.4.
func TestOrderOfNoNumber(t *testing.T) {
	for _, a := range noNumbers() {
		for _, b := range append(noNumbers(), 0, minusNought, 1, -1, infinite, -infinite, math.SmallestNonzeroFloat64) {
			if got, is := gauge.Order(a, b); got != 0 || is {
				t.Errorf("Order(%x, %v): %d %v", math.Float64bits(a), b, got, is)
			}
			if got, is := gauge.Order(b, a); got != 0 || is {
				t.Errorf("Order(%v, %x): %d %v", b, math.Float64bits(a), got, is)
			}
		}
	}
}

// P3.5: whole numbers from -2^53 to 2^53 come back.
func TestThereAndBack(t *testing.T) {
	for scale := -api.MaxScale; scale <= api.MaxScale; scale++ {
		for _, v := range values() {
			if v < -1<<53 || v > 1<<53 {
				continue
			}
			x, is, e := gauge.Float(v, scale)
			if !is || e != api.OK {
				t.Errorf("Float(%d, %d): %v %v %d", v, scale, x, is, e)
			}
			if back, e := gauge.Fixed(x, scale); back != v || e != api.OK {
				t.Errorf("Fixed(%b, %d): %d %d, not %d", x, scale, back, e, v)
			}
		}
	}
}

// P3.5: a reading that is less has no greater value.
func TestLessIsNotGreater(t *testing.T) {
	l := readings(1)
	slices.SortFunc(l, func(a, b float64) int {
		order, _ := gauge.Order(a, b)
		return order
	})
	for _, scale := range []int{-40, -7, 0, 11, 40} {
		last := int64(-api.MaxValue)
		for _, x := range l {
			v, e := gauge.Fixed(x, scale)
			if e != api.OK {
				continue
			}
			if v < last {
				t.Errorf("Fixed(%b, %d): %d, behind %d", x, scale, v, last)
			}
			last = v
		}
	}
}

// P3.5: turned round it has the turned value; and what has none has none turned round.
func TestTurned(t *testing.T) {
	for _, x := range append(readings(1), infinite, noNumber) {
		for _, scale := range []int{-40, -7, 0, 11, 40} {
			v, e := gauge.Fixed(x, scale)
			turned, turnedErr := gauge.Fixed(-x, scale)
			if turned != -v || turnedErr != e {
				t.Errorf("Fixed(%b, %d): %d %d; turned %d %d", x, scale, v, e, turned, turnedErr)
			}
		}
	}
}

// P3.5: what lies in the middle between two has the even one.
func TestMiddle(t *testing.T) {
	for scale := -api.MaxScale; scale <= api.MaxScale; scale++ {
		step, e := gauge.Step(scale)
		if e != api.OK {
			t.Fatalf("Step(%d): %d", scale, e)
		}
		for _, below := range []int64{-1 << 51, -1<<51 + 1, -1001, -1000, -3, -2, -1, 0, 1, 2, 3, 1000, 1001, 1<<51 - 2, 1<<51 - 1} {
			even := below + below&1
			if got, e := gauge.Fixed((float64(below)+0.5)*step, scale); got != even || e != api.OK {
				t.Errorf("the middle above %d, by %d: %d %d, not %d", below, scale, got, e, even)
			}
		}
	}
}
