package vary_test

import (
	"bytes"
	"encoding/binary"
	"math"
	"math/big"
	"slices"
	"testing"

	"yearbook/api"
	"yearbook/vary"
)

// plains tells numbers without a sign: the edges of each length with their neighbours, and usual ones of all lengths.
func plains() []uint64 {
	l := []uint64{0, 1, 2, 3, 63, 64, 300, math.MaxInt64, 1 << 63, 1<<63 + 1, math.MaxUint64 - 1, math.MaxUint64}
	for bits := 7; bits < 64; bits += 7 {
		l = append(l, 1<<bits-2, 1<<bits-1, 1<<bits, 1<<bits+1)
	}
	for shift := range 64 {
		l = append(l, 0xdb6d5bd1e995deaf>>shift)
	}
	slices.Sort(l)
	return slices.Compact(l)
}

// signeds tells numbers with a sign, so that both sides of each length's edge are there.
func signeds() []int64 {
	l := []int64{math.MinInt64, math.MinInt64 + 1, math.MaxInt64 - 1, math.MaxInt64}
	for _, n := range plains() {
		half := int64(n >> 1)
		l = append(l, half, -half, ^half)
	}
	slices.Sort(l)
	return slices.Compact(l)
}

// bytesOf goes by the document's words: the digits to the base 128, the lowest first, all but the last with 128 more.
func bytesOf(n *big.Int) []byte {
	var l []byte
	rest, digit, base := new(big.Int).Set(n), new(big.Int), big.NewInt(128)
	for {
		rest.DivMod(rest, base, digit)
		if rest.Sign() == 0 {
			return append(l, byte(digit.Int64()))
		}
		l = append(l, byte(digit.Int64())+128)
	}
}

func plainBytes(n uint64) []byte {
	return bytesOf(new(big.Int).SetUint64(n))
}

// signedBytes goes by the document's words, too: twice it, or twice as far as it is from 0, less 1.
func signedBytes(n int64) []byte {
	twice := new(big.Int).Lsh(big.NewInt(n), 1)
	if n < 0 {
		twice.Neg(twice).Sub(twice, big.NewInt(1))
	}
	return bytesOf(twice)
}

// P2.1: the number's bytes, as the document says them and as the library's varints have them.
func TestPutU(t *testing.T) {
	for _, n := range plains() {
		got := vary.PutU(nil, n)
		if !bytes.Equal(got, plainBytes(n)) || !bytes.Equal(got, binary.AppendUvarint(nil, n)) {
			t.Errorf("PutU(none, %d): % x", n, got)
		}
	}
	for _, x := range []struct {
		n    uint64
		want []byte
	}{
		{0, []byte{0}},
		{127, []byte{0x7f}},
		{128, []byte{0x80, 1}},
		{300, []byte{0xac, 2}},
		{1<<14 - 1, []byte{0xff, 0x7f}},
		{1 << 14, []byte{0x80, 0x80, 1}},
		{1<<63 - 1, []byte{255, 255, 255, 255, 255, 255, 255, 255, 0x7f}},
		{1 << 63, []byte{128, 128, 128, 128, 128, 128, 128, 128, 128, 1}},
		{math.MaxUint64, []byte{255, 255, 255, 255, 255, 255, 255, 255, 255, 1}},
	} {
		if got := vary.PutU(nil, x.n); !bytes.Equal(got, x.want) {
			t.Errorf("PutU(none, %d): % x, not % x", x.n, got, x.want)
		}
	}
}

// P2.1: so, with a sign.
func TestPut(t *testing.T) {
	for _, n := range signeds() {
		got := vary.Put(nil, n)
		if !bytes.Equal(got, signedBytes(n)) || !bytes.Equal(got, binary.AppendVarint(nil, n)) {
			t.Errorf("Put(none, %d): % x", n, got)
		}
	}
	for _, x := range []struct {
		n    int64
		want []byte
	}{
		{0, []byte{0}},
		{-1, []byte{1}},
		{1, []byte{2}},
		{-2, []byte{3}},
		{63, []byte{0x7e}},
		{-64, []byte{0x7f}},
		{64, []byte{0x80, 1}},
		{-65, []byte{0x81, 1}},
		{math.MaxInt64, []byte{254, 255, 255, 255, 255, 255, 255, 255, 255, 1}},
		{math.MinInt64, []byte{255, 255, 255, 255, 255, 255, 255, 255, 255, 1}},
	} {
		if got := vary.Put(nil, x.n); !bytes.Equal(got, x.want) {
			t.Errorf("Put(none, %d): % x, not % x", x.n, got, x.want)
		}
	}
}

// P2.1.
func TestSizes(t *testing.T) {
	for _, n := range plains() {
		if got, want := vary.SizeU(n), len(plainBytes(n)); got != want {
			t.Errorf("SizeU(%d): %d, not %d", n, got, want)
		}
	}
	for _, n := range signeds() {
		if got, want := vary.Size(n), len(signedBytes(n)); got != want {
			t.Errorf("Size(%d): %d, not %d", n, got, want)
		}
	}
	for _, x := range []struct{ got, want int }{
		{vary.SizeU(0), 1},
		{vary.SizeU(127), 1},
		{vary.SizeU(128), 2},
		{vary.SizeU(1<<63 - 1), 9},
		{vary.SizeU(1 << 63), 10},
		{vary.SizeU(math.MaxUint64), 10},
		{vary.Size(0), 1},
		{vary.Size(63), 1},
		{vary.Size(64), 2},
		{vary.Size(-64), 1},
		{vary.Size(-65), 2},
		{vary.Size(1<<62 - 1), 9},
		{vary.Size(1 << 62), 10},
		{vary.Size(-1 << 62), 9},
		{vary.Size(-1<<62 - 1), 10},
		{vary.Size(math.MaxInt64), 10},
		{vary.Size(math.MinInt64), 10},
	} {
		if x.got != x.want {
			t.Errorf("a size: %d, not %d", x.got, x.want)
		}
	}
}

// puts tells what the three calls lay behind b, of a number or a row that is the same each time.
func puts() []struct {
	name string
	call func(b []byte) []byte
	laid []byte
} {
	return []struct {
		name string
		call func(b []byte) []byte
		laid []byte
	}{
		{"PutU", func(b []byte) []byte { return vary.PutU(b, 300) }, []byte{0xac, 2}},
		{"Put", func(b []byte) []byte { return vary.Put(b, -65) }, []byte{0x81, 1}},
		{"PutRow", func(b []byte) []byte { return vary.PutRow(b, []int64{1, -65}) }, []byte{2, 2, 0x81, 1}},
		{"PutRow of none", func(b []byte) []byte { return vary.PutRow(b, nil) }, []byte{0}},
	}
}

// P2.1, P2.3: b stands ahead of what is put, whatever it is.
func TestPutBehind(t *testing.T) {
	for _, x := range puts() {
		for _, b := range [][]byte{nil, {}, {0}, {7, 0x80}, bytes.Repeat([]byte{255}, 1000)} {
			if got, want := x.call(b), slices.Concat(b, x.laid); !bytes.Equal(got, want) {
				t.Errorf("%s(% x): % x, not % x", x.name, b, got, want)
			}
		}
	}
}

// R3: b stays as it is, the room behind its end, too; what is answered is new memory.
func TestPutIsACopy(t *testing.T) {
	for _, x := range puts() {
		for length := range 4 {
			room := []byte{11, 12, 13, 14, 15, 16, 17, 18, 19, 20}
			before := slices.Clone(room)
			got := x.call(room[:length])
			if !bytes.Equal(room, before) {
				t.Errorf("%s: what was handed in became %d", x.name, room)
			}
			for i := range got {
				got[i]++
			}
			_ = append(got, 99)
			if !bytes.Equal(room, before) {
				t.Errorf("%s: its answer is no new memory: %d", x.name, room)
			}
		}
	}
}

// R3: two that are put behind the same bytes do not share what comes behind.
func TestPutTwice(t *testing.T) {
	for _, x := range puts() {
		b := x.call([]byte{5})
		one := vary.PutU(b, 1)
		two := vary.PutU(b, 2)
		if one[len(one)-1] != 1 || two[len(two)-1] != 2 {
			t.Errorf("%s: % x and % x share memory", x.name, one, two)
		}
	}
}

// R3: the row stays as it is.
func TestPutRowLeavesItsRow(t *testing.T) {
	row := []int64{1, -2, 3, -4}
	vary.PutRow(nil, row[:2])
	if !slices.Equal(row, []int64{1, -2, 3, -4}) {
		t.Errorf("the row became %d", row)
	}
}

// said goes by the words of P2.2, one behind the other: how many bytes the number has, and the error.
func said(b []byte, at int) (int, api.Errno) {
	if at < 0 || at > len(b) {
		return 0, api.ErrArg
	}
	tail := b[at:]
	ends := slices.IndexFunc(tail, func(digit byte) bool { return digit < 128 })
	if len(tail) >= 10 && (ends < 0 || ends >= 9) && tail[9] > 1 {
		return 0, api.ErrForm
	}
	if ends < 0 {
		return 0, api.ErrShort
	}
	if tail[ends] == 0 && ends > 0 {
		return 0, api.ErrForm
	}
	return ends + 1, api.OK
}

// holdGets holds both calls against said, and, where a number is got, against the bytes of that number.
func holdGets(t *testing.T, b []byte, at int) {
	t.Helper()
	size, want := said(b, at)
	u, next, e := vary.GetU(b, at)
	n, nextOfSigned, eOfSigned := vary.Get(b, at)
	if e != want || eOfSigned != want {
		t.Fatalf("GetU and Get(% x, %d): %d and %d, not %d", b, at, e, eOfSigned, want)
	}
	if want != api.OK {
		if u != 0 || next != 0 || n != 0 || nextOfSigned != 0 {
			t.Fatalf("GetU and Get(% x, %d): %d %d and %d %d beside %d", b, at, u, next, n, nextOfSigned, e)
		}
		return
	}
	if next != at+size || nextOfSigned != at+size {
		t.Fatalf("GetU and Get(% x, %d): the places %d and %d, not %d", b, at, next, nextOfSigned, at+size)
	}
	if !bytes.Equal(plainBytes(u), b[at:next]) || !bytes.Equal(signedBytes(n), b[at:next]) {
		t.Fatalf("GetU and Get(% x, %d): %d and %d, which have other bytes", b, at, u, n)
	}
}

// P2.2: the edges and wrong inputs, written out.
func TestGetU(t *testing.T) {
	nine := bytes.Repeat([]byte{128}, 9)
	full := bytes.Repeat([]byte{255}, 9)
	for _, x := range []struct {
		b    []byte
		at   int
		n    uint64
		next int
		e    api.Errno
	}{
		{[]byte{0xac, 2}, 0, 300, 2, api.OK},
		{[]byte{0xac, 2}, 1, 2, 2, api.OK},
		{[]byte{0}, 0, 0, 1, api.OK},
		{[]byte{0, 0}, 1, 0, 2, api.OK},
		{[]byte{128, 0, 5}, 1, 0, 2, api.OK},
		{[]byte{5, 0x80, 1, 9}, 1, 128, 3, api.OK},
		{slices.Concat(full, []byte{1}), 0, math.MaxUint64, 10, api.OK},
		{slices.Concat(nine, []byte{1, 200}), 0, 1 << 63, 10, api.OK},
		{slices.Concat([]byte{1, 2}, full, []byte{1}), 2, math.MaxUint64, 12, api.OK},
		{[]byte{0xac}, 0, 0, 0, api.ErrShort},
		{nil, 0, 0, 0, api.ErrShort},
		{[]byte{}, 0, 0, 0, api.ErrShort},
		{[]byte{1}, 1, 0, 0, api.ErrShort},
		{nine, 0, 0, 0, api.ErrShort},
		{full, 0, 0, 0, api.ErrShort},
		{slices.Concat(full, []byte{255}), 1, 0, 0, api.ErrShort},
		{[]byte{0x80, 0}, 0, 0, 0, api.ErrForm},
		{[]byte{0xac, 0x80, 0}, 0, 0, 0, api.ErrForm},
		{slices.Concat(nine, []byte{0}), 0, 0, 0, api.ErrForm},
		{slices.Concat(full, []byte{2}), 0, 0, 0, api.ErrForm},
		{slices.Concat(full, []byte{127}), 0, 0, 0, api.ErrForm},
		{slices.Concat(full, []byte{128}), 0, 0, 0, api.ErrForm},
		{slices.Concat(full, []byte{129}), 0, 0, 0, api.ErrForm},
		{slices.Concat(full, []byte{255}), 0, 0, 0, api.ErrForm},
		{slices.Concat(full, []byte{129, 1}), 0, 0, 0, api.ErrForm},
		{slices.Concat(full, []byte{129, 0}), 0, 0, 0, api.ErrForm},
		{nil, 1, 0, 0, api.ErrArg},
		{nil, -1, 0, 0, api.ErrArg},
		{[]byte{1, 2}, 3, 0, 0, api.ErrArg},
		{[]byte{1, 2}, -1, 0, 0, api.ErrArg},
		{[]byte{1, 2}, math.MaxInt, 0, 0, api.ErrArg},
		{[]byte{1, 2}, math.MinInt, 0, 0, api.ErrArg},
	} {
		if n, next, e := vary.GetU(x.b, x.at); n != x.n || next != x.next || e != x.e {
			t.Errorf("GetU(% x, %d): %d %d %d, not %d %d %d", x.b, x.at, n, next, e, x.n, x.next, x.e)
		}
		holdGets(t, x.b, x.at)
	}
}

// P2.2: with a sign.
func TestGet(t *testing.T) {
	full := bytes.Repeat([]byte{255}, 8)
	for _, x := range []struct {
		b    []byte
		at   int
		n    int64
		next int
		e    api.Errno
	}{
		{[]byte{0}, 0, 0, 1, api.OK},
		{[]byte{1}, 0, -1, 1, api.OK},
		{[]byte{2}, 0, 1, 1, api.OK},
		{[]byte{3}, 0, -2, 1, api.OK},
		{[]byte{9, 0x80, 1}, 1, 64, 3, api.OK},
		{slices.Concat([]byte{254}, full, []byte{1}), 0, math.MaxInt64, 10, api.OK},
		{slices.Concat([]byte{255}, full, []byte{1}), 0, math.MinInt64, 10, api.OK},
		{slices.Concat([]byte{255}, full, []byte{2}), 0, 0, 0, api.ErrForm},
		{slices.Concat([]byte{255}, full), 0, 0, 0, api.ErrShort},
		{[]byte{0x81, 0}, 0, 0, 0, api.ErrForm},
		{[]byte{0x81}, 0, 0, 0, api.ErrShort},
		{[]byte{1}, 1, 0, 0, api.ErrShort},
		{[]byte{1}, 2, 0, 0, api.ErrArg},
		{[]byte{1}, -1, 0, 0, api.ErrArg},
	} {
		if n, next, e := vary.Get(x.b, x.at); n != x.n || next != x.next || e != x.e {
			t.Errorf("Get(% x, %d): %d %d %d, not %d %d %d", x.b, x.at, n, next, e, x.n, x.next, x.e)
		}
	}
}

// P2.2, P2.4: all pairs of bytes, and all ends of rows of bytes that each have a next one, up to twelve bytes.
func TestGetOfManyBytes(t *testing.T) {
	for first := range 256 {
		for second := range 256 {
			b := []byte{byte(first), byte(second)}
			for at := -1; at <= 3; at++ {
				holdGets(t, b, at)
			}
		}
	}
	telling := []byte{0, 1, 2, 127, 128, 129, 255}
	for length := range 13 {
		for _, fill := range []byte{128, 129, 200, 255} {
			ahead := bytes.Repeat([]byte{fill}, length)
			holdGets(t, ahead, 0)
			for _, a := range telling {
				for _, b := range telling {
					for _, c := range telling {
						row := slices.Concat(ahead, []byte{a, b, c})
						for at := range len(row) + 2 {
							holdGets(t, row, at)
						}
					}
				}
			}
		}
	}
}

// R3: the bytes that are read stay as they are.
func TestGetLeavesItsBytes(t *testing.T) {
	room := []byte{2, 0x80, 1, 3, 0xff, 0xff}
	before := slices.Clone(room)
	vary.GetU(room[:4], 0)
	vary.Get(room[:4], 1)
	vary.GetRow(room[:4], 0, 9)
	if !bytes.Equal(room, before) {
		t.Errorf("the bytes became % x", room)
	}
}

// P2.3: how many there are (without a sign), and each (with one).
func TestPutRow(t *testing.T) {
	for _, l := range [][]int64{nil, {}, {0}, {1, -2}, {math.MinInt64, math.MaxInt64}, signeds(), make([]int64, 127), make([]int64, 128), make([]int64, 20000)} {
		want := plainBytes(uint64(len(l)))
		for _, n := range l {
			want = append(want, signedBytes(n)...)
		}
		got := vary.PutRow(nil, l)
		if !bytes.Equal(got, want) {
			t.Errorf("PutRow of %d numbers: %d bytes, not %d, or others", len(l), len(got), len(want))
		}
		behind := slices.Concat([]byte{9, 9}, got, []byte{7})
		back, next, e := vary.GetRow(behind, 2, len(l))
		if !slices.Equal(back, l) || next != len(behind)-1 || e != api.OK {
			t.Errorf("GetRow of %d numbers: %d of them, %d %d", len(l), len(back), next, e)
		}
	}
}

// P2.3: the edges and wrong inputs, and which error goes ahead.
func TestGetRow(t *testing.T) {
	full := bytes.Repeat([]byte{255}, 9)
	for _, x := range []struct {
		name     string
		b        []byte
		at, most int
		want     []int64
		next     int
		e        api.Errno
	}{
		{"two", []byte{2, 2, 3}, 0, 2, []int64{1, -2}, 3, api.OK},
		{"two, of more", []byte{2, 2, 3}, 0, 3, []int64{1, -2}, 3, api.OK},
		{"two, of as many as may be", []byte{2, 2, 3}, 0, math.MaxInt, []int64{1, -2}, 3, api.OK},
		{"none", []byte{0}, 0, 0, nil, 1, api.OK},
		{"none, and what is wrong behind it", []byte{0, 128, 0}, 0, 5, nil, 1, api.OK},
		{"one, in the middle", []byte{128, 1, 0x80, 1, 255}, 1, 1, []int64{64}, 4, api.OK},
		{"one too many", []byte{2, 2, 3}, 0, 1, nil, 0, api.ErrLong},
		{"none may be", []byte{1, 2}, 0, 0, nil, 0, api.ErrLong},
		{"too many goes ahead of too short", []byte{2}, 0, 1, nil, 0, api.ErrLong},
		{"too many goes ahead of no number", []byte{2, 128, 0}, 0, 1, nil, 0, api.ErrLong},
		{"2^64 - 1", slices.Concat(full, []byte{1}), 0, math.MaxInt, nil, 0, api.ErrLong},
		{"2^63, one more than may be", []byte{128, 128, 128, 128, 128, 128, 128, 128, 128, 1}, 0, math.MaxInt, nil, 0, api.ErrLong},
		{"2^63 - 1, without them", []byte{255, 255, 255, 255, 255, 255, 255, 255, 127}, 0, math.MaxInt, nil, 0, api.ErrShort},
		{"2^63 - 1, and some of them", []byte{255, 255, 255, 255, 255, 255, 255, 255, 127, 1, 2, 3}, 0, math.MaxInt, nil, 0, api.ErrShort},
		{"no count", []byte{128, 0, 1}, 0, 5, nil, 0, api.ErrForm},
		{"too great a count", slices.Concat(full, []byte{2}), 0, 5, nil, 0, api.ErrForm},
		{"a count that ends early", []byte{128}, 0, 0, nil, 0, api.ErrShort},
		{"no bytes", nil, 0, 0, nil, 0, api.ErrShort},
		{"at the end", []byte{0}, 1, 0, nil, 0, api.ErrShort},
		{"the last is not there", []byte{2, 2}, 0, 2, nil, 0, api.ErrShort},
		{"the last ends early", []byte{2, 2, 128}, 0, 2, nil, 0, api.ErrShort},
		{"the last is none", []byte{2, 2, 128, 0}, 0, 2, nil, 0, api.ErrForm},
		{"the first that is wrong is told", []byte{3, 2, 128, 0, 128}, 0, 3, nil, 0, api.ErrForm},
		{"a number of too many bytes", slices.Concat([]byte{1}, full, []byte{2}), 0, 3, nil, 0, api.ErrForm},
		{"no place, ahead", []byte{0}, -1, 0, nil, 0, api.ErrArg},
		{"no place, behind", []byte{0}, 2, 0, nil, 0, api.ErrArg},
		{"no place, far behind", []byte{0}, math.MaxInt, 0, nil, 0, api.ErrArg},
		{"below none", []byte{0}, 0, -1, nil, 0, api.ErrArg},
		{"far below none", []byte{0}, 0, math.MinInt, nil, 0, api.ErrArg},
		{"below none goes ahead of no count", []byte{128, 0}, 0, -1, nil, 0, api.ErrArg},
		{"below none goes ahead of too short", nil, 0, -1, nil, 0, api.ErrArg},
	} {
		got, next, e := vary.GetRow(x.b, x.at, x.most)
		if !slices.Equal(got, x.want) || next != x.next || e != x.e {
			t.Errorf("GetRow: %s: %d %d %d, not %d %d %d", x.name, got, next, e, x.want, x.next, x.e)
		}
	}
}

// P2.4: what was put is got, wherever it stands.
func TestPutAndGot(t *testing.T) {
	b := []byte{128, 128}
	var places []int
	for _, n := range signeds() {
		places = append(places, len(b))
		b = vary.PutU(vary.Put(b, n), uint64(n))
	}
	for i, n := range signeds() {
		got, next, e := vary.Get(b, places[i])
		if got != n || next != places[i]+vary.Size(n) || e != api.OK {
			t.Errorf("Get of %d: %d %d %d", n, got, next, e)
		}
		u, next, e := vary.GetU(b, next)
		if u != uint64(n) || next != places[i]+vary.Size(n)+vary.SizeU(uint64(n)) || e != api.OK {
			t.Errorf("GetU of %d: %d %d %d", uint64(n), u, next, e)
		}
	}
}

// P2.4: the bytes of none begin with those of another one.
func TestNoneBeginsWithAnother(t *testing.T) {
	for _, n := range plains() {
		for _, m := range plains() {
			if n != m && bytes.HasPrefix(vary.PutU(nil, n), vary.PutU(nil, m)) {
				t.Errorf("%d begins with %d", n, m)
			}
		}
	}
	for _, n := range signeds() {
		for _, m := range signeds() {
			if n != m && bytes.HasPrefix(vary.Put(nil, n), vary.Put(nil, m)) {
				t.Errorf("%d begins with %d", n, m)
			}
		}
	}
}

// P2.4: who is nearer to 0 has no more bytes.
func TestNearerIsNoLonger(t *testing.T) {
	far := func(n int64) uint64 {
		if n < 0 {
			return -uint64(n)
		}
		return uint64(n)
	}
	for _, n := range signeds() {
		for _, m := range signeds() {
			if far(n) < far(m) && vary.Size(n) > vary.Size(m) {
				t.Errorf("Size(%d) is above Size(%d)", n, m)
			}
		}
	}
	l := plains()
	for i := range len(l) - 1 {
		if vary.SizeU(l[i]) > vary.SizeU(l[i+1]) {
			t.Errorf("SizeU(%d) is above SizeU(%d)", l[i], l[i+1])
		}
	}
}
