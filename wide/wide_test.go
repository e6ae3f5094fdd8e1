package wide_test

import (
	"math"
	"math/big"
	"slices"
	"strings"
	"testing"

	"yearbook/api"
	"yearbook/wide"
)

var (
	least    = api.Wide{Hi: math.MinInt64}
	greatest = api.Wide{Hi: math.MaxInt64, Lo: math.MaxUint64}
	none     = api.Wide{}
)

// bigOf tells the number that the document says a Wide is: Hi times 2^64, and Lo.
func bigOf(a api.Wide) *big.Int {
	n := new(big.Int).Lsh(big.NewInt(a.Hi), 64)
	return n.Add(n, new(big.Int).SetUint64(a.Lo))
}

// wanted tells what a call must answer whose exact answer is n.
func wanted(n *big.Int) (api.Wide, api.Errno) {
	if n.Cmp(bigOf(least)) < 0 || n.Cmp(bigOf(greatest)) > 0 {
		return none, api.ErrOver
	}
	two64 := new(big.Int).Lsh(big.NewInt(1), 64)
	hi, lo := new(big.Int).DivMod(n, two64, new(big.Int))
	return api.Wide{Hi: hi.Int64(), Lo: lo.Uint64()}, api.OK
}

func hold(t *testing.T, call string, got api.Wide, gotErr api.Errno, exact *big.Int) {
	t.Helper()
	want, wantErr := wanted(exact)
	if got != want || gotErr != wantErr {
		t.Errorf("%s: %v %d, not %v %d", call, got, gotErr, want, wantErr)
	}
}

// numbers tells the edges, their neighbours, and a row of usual numbers of all lengths and both signs.
func numbers() []api.Wide {
	var l []api.Wide
	for _, hi := range []int64{math.MinInt64, math.MinInt64 + 1, -1 << 62, -7, -2, -1, 0, 1, 2, 7, 1 << 62, math.MaxInt64 - 1, math.MaxInt64} {
		for _, lo := range []uint64{0, 1, 2, 10, 1<<63 - 1, 1 << 63, 1<<63 + 1, math.MaxUint64 - 1, math.MaxUint64} {
			l = append(l, api.Wide{Hi: hi, Lo: lo})
		}
	}
	bits := uint64(88172645463325252)
	next := func() uint64 {
		bits ^= bits << 13
		bits ^= bits >> 7
		bits ^= bits << 17
		return bits
	}
	for shift := range 64 {
		l = append(l, api.Wide{Hi: int64(next()) >> shift, Lo: next()})
	}
	return l
}

// halves tells the edges of 64 bits, and numbers of all lengths.
func halves() []int64 {
	l := []int64{math.MinInt64, math.MinInt64 + 1, -10, -3, -2, -1, 0, 1, 2, 3, 10, math.MaxInt64 - 1, math.MaxInt64}
	for shift := range 62 {
		l = append(l, -0x5bd1e995deadbeef>>shift, 0x5bd1e995deadbeef>>shift)
	}
	return l
}

// P1.1.
func TestOf(t *testing.T) {
	for _, n := range halves() {
		if got := bigOf(wide.Of(n)); got.Cmp(big.NewInt(n)) != 0 {
			t.Errorf("Of(%d): %v", n, got)
		}
	}
	if got := wide.Of(-1); got != (api.Wide{Hi: -1, Lo: math.MaxUint64}) {
		t.Errorf("Of(-1): %v", got)
	}
	if got := wide.Of(math.MinInt64); got != (api.Wide{Hi: -1, Lo: 1 << 63}) {
		t.Errorf("Of(-2^63): %v", got)
	}
}

// P1.1: with math/big as the measure.
func TestAddSub(t *testing.T) {
	for _, a := range numbers() {
		for _, b := range numbers() {
			got, e := wide.Add(a, b)
			hold(t, "Add("+wide.Text(a)+", "+wide.Text(b)+")", got, e, new(big.Int).Add(bigOf(a), bigOf(b)))
			got, e = wide.Sub(a, b)
			hold(t, "Sub("+wide.Text(a)+", "+wide.Text(b)+")", got, e, new(big.Int).Sub(bigOf(a), bigOf(b)))
		}
	}
}

// P1.1: the edges, written out.
func TestAddSubEdges(t *testing.T) {
	one := wide.Of(1)
	for _, x := range []struct {
		call func(a, b api.Wide) (api.Wide, api.Errno)
		name string
		a, b api.Wide
		want api.Wide
		e    api.Errno
	}{
		{wide.Add, "Add: a carry", api.Wide{Lo: math.MaxUint64}, one, api.Wide{Hi: 1}, api.OK},
		{wide.Add, "Add: a carry to 0", wide.Of(-1), one, none, api.OK},
		{wide.Add, "Add: to the greatest", api.Wide{Hi: math.MaxInt64, Lo: math.MaxUint64 - 1}, one, greatest, api.OK},
		{wide.Add, "Add: above the greatest", greatest, one, none, api.ErrOver},
		{wide.Add, "Add: above it by the carry alone", api.Wide{Hi: math.MaxInt64, Lo: 1 << 63}, api.Wide{Lo: 1 << 63}, none, api.ErrOver},
		{wide.Add, "Add: below the least", least, wide.Of(-1), none, api.ErrOver},
		{wide.Add, "Add: the least twice", least, least, none, api.ErrOver},
		{wide.Add, "Add: both ends", least, greatest, wide.Of(-1), api.OK},
		{wide.Sub, "Sub: a borrow", api.Wide{Hi: 1}, one, api.Wide{Lo: math.MaxUint64}, api.OK},
		{wide.Sub, "Sub: a borrow from 0", none, one, wide.Of(-1), api.OK},
		{wide.Sub, "Sub: to the least", api.Wide{Hi: math.MinInt64, Lo: 1}, one, least, api.OK},
		{wide.Sub, "Sub: below the least", least, one, none, api.ErrOver},
		{wide.Sub, "Sub: above the greatest", greatest, wide.Of(-1), none, api.ErrOver},
		{wide.Sub, "Sub: the least of 0", none, least, none, api.ErrOver},
		{wide.Sub, "Sub: the least of -1", wide.Of(-1), least, greatest, api.OK},
		{wide.Sub, "Sub: the least of itself", least, least, none, api.OK},
		{wide.Sub, "Sub: the greatest of -1", wide.Of(-1), greatest, least, api.OK},
		{wide.Sub, "Sub: the greatest of -2", wide.Of(-2), greatest, none, api.ErrOver},
	} {
		if got, e := x.call(x.a, x.b); got != x.want || e != x.e {
			t.Errorf("%s: %v %d, not %v %d", x.name, got, e, x.want, x.e)
		}
	}
}

// P1.1.
func TestNeg(t *testing.T) {
	for _, a := range numbers() {
		got, e := wide.Neg(a)
		hold(t, "Neg("+wide.Text(a)+")", got, e, new(big.Int).Neg(bigOf(a)))
	}
	if got, e := wide.Neg(least); got != none || e != api.ErrOver {
		t.Errorf("Neg(-2^127): %v %d", got, e)
	}
	if got, e := wide.Neg(greatest); got != (api.Wide{Hi: math.MinInt64, Lo: 1}) || e != api.OK {
		t.Errorf("Neg(2^127 - 1): %v %d", got, e)
	}
	if got, e := wide.Neg(none); got != none || e != api.OK {
		t.Errorf("Neg(0): %v %d", got, e)
	}
}

// P1.2: with math/big as the measure.
func TestMul(t *testing.T) {
	for _, a := range halves() {
		for _, b := range halves() {
			hold(t, "Mul", wide.Mul(a, b), api.OK, new(big.Int).Mul(big.NewInt(a), big.NewInt(b)))
		}
	}
	if got := wide.Mul(math.MinInt64, math.MinInt64); got != (api.Wide{Hi: 1 << 62}) {
		t.Errorf("Mul(-2^63, -2^63): %v", got)
	}
	if got := wide.Mul(math.MinInt64, math.MaxInt64); got != (api.Wide{Hi: -1 << 62, Lo: 1 << 63}) {
		t.Errorf("Mul(-2^63, 2^63 - 1): %v", got)
	}
	if got := wide.Mul(-5, 0); got != none {
		t.Errorf("Mul(-5, 0): %v", got)
	}
}

// P1.2: with math/big as the measure.
func TestScale(t *testing.T) {
	for _, a := range numbers() {
		for _, n := range halves() {
			got, e := wide.Scale(a, n)
			hold(t, "Scale("+wide.Text(a)+")", got, e, new(big.Int).Mul(bigOf(a), big.NewInt(n)))
		}
	}
}

// P1.2: the edges, written out.
func TestScaleEdges(t *testing.T) {
	for _, x := range []struct {
		name string
		a    api.Wide
		n    int64
		want api.Wide
		e    api.Errno
	}{
		{"the least, as it is", least, 1, least, api.OK},
		{"the least, turned", least, -1, none, api.ErrOver},
		{"the least, no times", least, 0, none, api.OK},
		{"the least, twice", least, 2, none, api.ErrOver},
		{"the greatest, turned", greatest, -1, api.Wide{Hi: math.MinInt64, Lo: 1}, api.OK},
		{"the greatest, twice", greatest, 2, none, api.ErrOver},
		{"to the least, from below", api.Wide{Hi: -1 << 62}, 2, least, api.OK},
		{"to the least, from above", api.Wide{Hi: 1 << 62}, -2, least, api.OK},
		{"just above the greatest", api.Wide{Hi: 1 << 62}, 2, none, api.ErrOver},
		{"just below the least", api.Wide{Hi: 1 << 62, Lo: 1}, -2, none, api.ErrOver},
		{"to the least by -2^63", api.Wide{Hi: 1}, math.MinInt64, least, api.OK},
		{"2^128, whose lower bits are 0", api.Wide{Hi: 4}, 1 << 62, none, api.ErrOver},
		{"2^128 by the carry of the lower half", api.Wide{Hi: 3, Lo: math.MaxUint64}, 1<<62 + 1, none, api.ErrOver},
		{"a carry from Lo to Hi", api.Wide{Lo: 1 << 63}, 2, api.Wide{Hi: 1}, api.OK},
		{"the greatest number's 64 bits", api.Wide{Lo: math.MaxUint64}, math.MaxInt64, api.Wide{Hi: math.MaxInt64 - 1, Lo: 1<<63 + 1}, api.OK},
	} {
		if got, e := wide.Scale(x.a, x.n); got != x.want || e != x.e {
			t.Errorf("Scale: %s: %v %d, not %v %d", x.name, got, e, x.want, x.e)
		}
	}
}

// P1.3, P1.5: one order, that of the numbers themselves.
func TestCompare(t *testing.T) {
	for _, a := range numbers() {
		for _, b := range numbers() {
			want := bigOf(a).Cmp(bigOf(b))
			if got := wide.Compare(a, b); got != want {
				t.Errorf("Compare(%v, %v): %d, not %d", a, b, got, want)
			}
			if wide.Compare(b, a) != -want {
				t.Errorf("Compare(%v, %v): not the other way round", b, a)
			}
		}
	}
	l := numbers()
	slices.SortFunc(l, wide.Compare)
	if l[0] != least || l[len(l)-1] != greatest {
		t.Errorf("sorted: from %v to %v", l[0], l[len(l)-1])
	}
}

// P1.3: with math/big as the measure, whose DivMod leaves from 0 to m less 1.
func TestDiv(t *testing.T) {
	for _, a := range numbers() {
		for _, m := range halves() {
			got, rest, e := wide.Div(a, m)
			if m < 1 {
				if got != none || rest != 0 || e != api.ErrArg {
					t.Errorf("Div(%s, %d): %v %d %d", wide.Text(a), m, got, rest, e)
				}
				continue
			}
			whole, left := new(big.Int).DivMod(bigOf(a), big.NewInt(m), new(big.Int))
			hold(t, "Div("+wide.Text(a)+")", got, e, whole)
			if rest != left.Int64() {
				t.Errorf("Div(%s, %d): leaves %d, not %d", wide.Text(a), m, rest, left)
			}
		}
	}
}

// P1.3: the edges, written out.
func TestDivEdges(t *testing.T) {
	for _, x := range []struct {
		a    api.Wide
		m    int64
		want api.Wide
		rest int64
		e    api.Errno
	}{
		{wide.Of(7), 2, wide.Of(3), 1, api.OK},
		{wide.Of(-7), 2, wide.Of(-4), 1, api.OK},
		{wide.Of(-8), 2, wide.Of(-4), 0, api.OK},
		{wide.Of(-1), math.MaxInt64, wide.Of(-1), math.MaxInt64 - 1, api.OK},
		{wide.Of(0), 5, wide.Of(0), 0, api.OK},
		{least, 1, least, 0, api.OK},
		{greatest, 1, greatest, 0, api.OK},
		{least, 2, api.Wide{Hi: -1 << 62}, 0, api.OK},
		{greatest, math.MaxInt64, api.Wide{Hi: 1, Lo: 2}, 1, api.OK},
		{wide.Of(7), 0, none, 0, api.ErrArg},
		{wide.Of(7), -1, none, 0, api.ErrArg},
		{least, -1, none, 0, api.ErrArg},
		{greatest, math.MinInt64, none, 0, api.ErrArg},
	} {
		if got, rest, e := wide.Div(x.a, x.m); got != x.want || rest != x.rest || e != x.e {
			t.Errorf("Div(%s, %d): %v %d %d, not %v %d %d", wide.Text(x.a), x.m, got, rest, e, x.want, x.rest, x.e)
		}
	}
}

// P1.3.
func TestInt(t *testing.T) {
	for _, a := range numbers() {
		want, wantErr := int64(0), api.ErrOver
		if n := bigOf(a); n.IsInt64() {
			want, wantErr = n.Int64(), api.OK
		}
		if got, e := wide.Int(a); got != want || e != wantErr {
			t.Errorf("Int(%v): %d %d, not %d %d", a, got, e, want, wantErr)
		}
	}
	for _, x := range []struct {
		a    api.Wide
		want int64
		e    api.Errno
	}{
		{api.Wide{Lo: math.MaxInt64}, math.MaxInt64, api.OK},
		{api.Wide{Lo: 1 << 63}, 0, api.ErrOver},
		{api.Wide{Hi: -1, Lo: 1 << 63}, math.MinInt64, api.OK},
		{api.Wide{Hi: -1, Lo: 1<<63 - 1}, 0, api.ErrOver},
		{api.Wide{Hi: 1, Lo: 5}, 0, api.ErrOver},
		{api.Wide{Hi: -2, Lo: math.MaxUint64}, 0, api.ErrOver},
	} {
		if got, e := wide.Int(x.a); got != x.want || e != x.e {
			t.Errorf("Int(%v): %d %d, not %d %d", x.a, got, e, x.want, x.e)
		}
	}
}

// P1.4.
func TestTotal(t *testing.T) {
	for _, x := range []struct {
		name string
		l    []api.Wide
		want api.Wide
		e    api.Errno
	}{
		{"none", nil, none, api.OK},
		{"an empty row", []api.Wide{}, none, api.OK},
		{"one", []api.Wide{least}, least, api.OK},
		{"three", []api.Wide{wide.Of(5), wide.Of(-9), wide.Of(1)}, wide.Of(-3), api.OK},
		{"both ends, in turn", []api.Wide{greatest, least, greatest, wide.Of(1)}, greatest, api.OK},
		{"above, and back", []api.Wide{greatest, wide.Of(1), wide.Of(-1)}, none, api.ErrOver},
		{"below, and back", []api.Wide{least, wide.Of(-1), wide.Of(1)}, none, api.ErrOver},
		{"the same, in another order", []api.Wide{greatest, wide.Of(-1), wide.Of(1)}, greatest, api.OK},
		{"above at the last", []api.Wide{wide.Of(1), greatest}, none, api.ErrOver},
		{"round to 0", []api.Wide{least, least, least, least}, none, api.ErrOver},
		{"above at first, and then many", []api.Wide{greatest, greatest, wide.Of(-5), wide.Of(7), wide.Of(0)}, none, api.ErrOver},
	} {
		if got, e := wide.Total(x.l...); got != x.want || e != x.e {
			t.Errorf("Total: %s: %v %d, not %v %d", x.name, got, e, x.want, x.e)
		}
	}
}

// P1.4: every row of three, with math/big as the measure.
func TestTotalOfThree(t *testing.T) {
	l := numbers()
	for i, a := range l {
		for j, b := range l {
			c := l[(7*i+11*j)%len(l)]
			sum := new(big.Int).Add(bigOf(a), bigOf(b))
			exact := new(big.Int).Add(sum, bigOf(c))
			if _, e := wanted(sum); e != api.OK {
				exact = sum
			}
			got, e := wide.Total(a, b, c)
			hold(t, "Total", got, e, exact)
		}
	}
}

// R3: what is handed in stays as it is, the room behind its end, too.
func TestTotalLeavesItsRow(t *testing.T) {
	row := []api.Wide{wide.Of(1), wide.Of(2), wide.Of(3), wide.Of(4)}
	if got, e := wide.Total(row[:2]...); got != wide.Of(3) || e != api.OK {
		t.Errorf("Total: %v %d", got, e)
	}
	if !slices.Equal(row, []api.Wide{wide.Of(1), wide.Of(2), wide.Of(3), wide.Of(4)}) {
		t.Errorf("the row became %v", row)
	}
}

// P1.4: with math/big as the measure.
func TestText(t *testing.T) {
	for _, a := range numbers() {
		if got, want := wide.Text(a), bigOf(a).String(); got != want {
			t.Errorf("Text(%v): %s, not %s", a, got, want)
		}
	}
}

// P1.4: the edges, and all powers of ten, where noughts stand ahead of a group's digits.
func TestTextEdges(t *testing.T) {
	for _, x := range []struct {
		a    api.Wide
		want string
	}{
		{none, "0"},
		{wide.Of(-1), "-1"},
		{wide.Of(-12), "-12"},
		{wide.Of(math.MinInt64), "-9223372036854775808"},
		{api.Wide{Lo: math.MaxUint64}, "18446744073709551615"},
		{api.Wide{Hi: 1}, "18446744073709551616"},
		{greatest, "170141183460469231731687303715884105727"},
		{least, "-170141183460469231731687303715884105728"},
	} {
		if got := wide.Text(x.a); got != x.want {
			t.Errorf("Text(%v): %s, not %s", x.a, got, x.want)
		}
	}
	power := wide.Of(1)
	for noughts := range 39 {
		want := "1" + strings.Repeat("0", noughts)
		if got := wide.Text(power); got != want {
			t.Errorf("Text(10^%d): %s", noughts, got)
		}
		less, _ := wide.Sub(none, power)
		if got := wide.Text(less); got != "-"+want {
			t.Errorf("Text(-10^%d): %s", noughts, got)
		}
		power, _ = wide.Scale(power, 10)
	}
}

// P1.5: what is added is taken away again.
func TestAddedAndTakenAway(t *testing.T) {
	for _, a := range numbers() {
		for _, b := range numbers() {
			sum, e := wide.Add(a, b)
			if e != api.OK {
				continue
			}
			if back, e := wide.Sub(sum, b); back != a || e != api.OK {
				t.Errorf("%s and %s, less the latter: %v %d", wide.Text(a), wide.Text(b), back, e)
			}
		}
	}
}

// P1.5: Div's whole number times m, and what is left, are a.
func TestDividedAndPutTogether(t *testing.T) {
	for _, a := range numbers() {
		for _, m := range halves() {
			whole, rest, e := wide.Div(a, m)
			if e != api.OK {
				continue
			}
			if rest < 0 || rest >= m {
				t.Errorf("Div(%s, %d): leaves %d", wide.Text(a), m, rest)
			}
			// The product alone may be below the least number, so the measure is math/big's.
			back := new(big.Int).Mul(bigOf(whole), big.NewInt(m))
			if back.Add(back, big.NewInt(rest)).Cmp(bigOf(a)) != 0 {
				t.Errorf("Div(%s, %d): %v and %d", wide.Text(a), m, whole, rest)
			}
		}
	}
}
