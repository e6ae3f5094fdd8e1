package segcode_test

import (
	"bytes"
	"encoding/binary"
	"math"
	"slices"
	"testing"

	"yearbook/api"
	"yearbook/runs"
	"yearbook/seg"
	"yearbook/segcode"
	"yearbook/segrows"
	"yearbook/vary"
)

const (
	maxBack = int64(api.MaxBack)
	maxTime = uint64(api.MaxTime)
)

// bytesOf goes by the chapter's list. The library's numbers as bytes are those of layer 2.
func bytesOf(s api.Seg) []byte {
	b := []byte{byte(s.Kind)}
	b = binary.AppendUvarint(b, uint64(s.Err))
	b = binary.AppendUvarint(b, uint64(len(s.Runs)))
	last := int64(0)
	for _, r := range s.Runs {
		b = binary.AppendUvarint(b, uint64(r.From-last))
		b = binary.AppendUvarint(b, uint64(r.Count))
		if r.Count > 1 {
			b = binary.AppendUvarint(b, uint64(r.Step))
		}
		last = r.From + r.Step*int64(r.Count-1)
	}
	if s.Kind == api.SegFree {
		b = binary.AppendUvarint(b, uint64(s.Line.R))
	}
	if s.Kind == api.SegFree || s.Kind == api.SegTilt {
		b = binary.AppendVarint(b, s.Line.N)
		b = binary.AppendUvarint(b, uint64(s.Line.D))
	}
	if s.Kind != api.SegRaw {
		return binary.AppendVarint(b, s.Line.A)
	}
	for i, v := range s.Raw {
		if i > 0 {
			v -= s.Raw[i-1]
		}
		b = binary.AppendVarint(b, v)
	}
	return b
}

// laid tells the bytes of numbers that have no sign.
func laid(numbers ...uint64) []byte {
	var b []byte
	for _, n := range numbers {
		b = binary.AppendUvarint(b, n)
	}
	return b
}

// signed tells the bytes of numbers that have one.
func signed(numbers ...int64) []byte {
	var b []byte
	for _, n := range numbers {
		b = binary.AppendVarint(b, n)
	}
	return b
}

func hold(t *testing.T, b []byte, at int, want api.Seg, wantNext int, wantE api.Errno) {
	t.Helper()
	if s, next, e := segcode.Get(b, at); !seg.Same(s, want) || next != wantNext || e != wantE {
		t.Fatalf("Get(%x, %d): %v %d %d, not %v %d %d", b, at, s, next, e, want, wantNext, wantE)
	}
}

// holdError holds that no segment begins with the bytes, be they the first ones or not.
func holdError(t *testing.T, b []byte, want api.Errno) {
	t.Helper()
	hold(t, b, 0, api.Seg{}, 0, want)
	hold(t, append([]byte{1, 0}, b...), 2, api.Seg{}, 0, want)
	if s, e := segcode.Decode(b); !seg.Same(s, api.Seg{}) || e != want {
		t.Fatalf("Decode(%x): %v %d, not %d", b, s, e, want)
	}
}

func TestEncode(t *testing.T) {
	// P12.1, P12.4: the bytes are those of the chapter's list, and no more than it says.
	kinds := map[int]int{}
	for _, s := range segrows.All() {
		want := bytesOf(s)
		if b, e := segcode.Encode(s); !bytes.Equal(b, want) || e != api.OK {
			t.Fatalf("Encode(%v): %x %d, not %x", s, b, e, want)
		}
		if n, e := segcode.Size(s); n != len(want) || e != api.OK {
			t.Fatalf("Size(%v): %d %d, not %d", s, n, e, len(want))
		}
		most := 9 + 16*len(s.Runs) + 33
		if s.Kind == api.SegRaw {
			most += 10*len(s.Raw) - 33
		}
		if len(want) > most {
			t.Fatalf("%v has %d bytes, and %d at most", s, len(want), most)
		}
		kinds[s.Kind]++
	}
	for _, kind := range []int{api.SegFlat, api.SegTilt, api.SegFree, api.SegRaw} {
		if kinds[kind] < 20 {
			t.Errorf("%d segments of the Kind %d: too few to tell", kinds[kind], kind)
		}
	}
}

func TestDecode(t *testing.T) {
	// P12.2 to P12.4: what was encoded is decoded, wherever it lies; with a byte behind it, it is nothing alone.
	for _, s := range segrows.All() {
		b := bytesOf(s)
		if got, e := segcode.Decode(b); !seg.Same(got, s) || e != api.OK {
			t.Fatalf("Decode(%x): %v %d, not %v", b, got, e, s)
		}
		for _, behind := range []byte{0, 1, 0x80, 0xff} {
			longer := append([]byte{1, 0x80, 0}, append(slices.Clone(b), behind)...)
			hold(t, longer, 3, s, len(b)+3, api.OK)
			if got, e := segcode.Decode(longer[3:]); !seg.Same(got, api.Seg{}) || e != api.ErrForm {
				t.Fatalf("Decode(%x): %v %d", longer[3:], got, e)
			}
		}
	}
}

func TestCutOff(t *testing.T) {
	// P12.4: cut off anywhere it is ErrShort, so the bytes of none begin with those of another one.
	for i, s := range segrows.All() {
		b := bytesOf(s)
		step := 1
		if len(b) > 60 && i%7 > 0 {
			step = len(b) / 9
		}
		for n := 0; n < len(b); n += step {
			hold(t, b[:n:n], 0, api.Seg{}, 0, api.ErrShort)
			if got, e := segcode.Decode(b[:n]); !seg.Same(got, api.Seg{}) || e != api.ErrShort {
				t.Fatalf("Decode(%x): %v %d", b[:n], got, e)
			}
		}
	}
}

func TestMost(t *testing.T) {
	// P12.4: there are segments with just as many bytes as there are at most.
	line := api.Line{A: maxBack, R: api.MaxTime - 1, N: -(1 << 62) - 1, D: api.MaxTime}
	s := api.Seg{Kind: api.SegFree, Runs: []api.Run{{From: api.MaxTime, Count: 1}}, Line: line, Err: api.MaxEps}
	if n, e := segcode.Size(s); n != 6+1+1+(7+1)+33 || e != api.OK {
		t.Errorf("Size(%v): %d %d", s, n, e)
	}
	var values []int64
	for i := range int64(256) {
		values = append(values, maxBack*(i%2*2-1))
	}
	raw := segrows.Numbers([]api.Run{{From: 0, Step: 1, Count: 256}}, values...)
	if n, e := segcode.Size(raw); n != 1+1+1+(1+2+1)+9+255*10 || e != api.OK {
		t.Errorf("Size(%v): %d %d", raw, n, e)
	}
}

func TestEncodeOfWrong(t *testing.T) {
	// P12.1: nothing is laid of what may not be.
	for _, s := range segrows.Wrong() {
		if b, e := segcode.Encode(s); len(b) != 0 || e != api.ErrSeg {
			t.Errorf("Encode(%v): %x %d", s, b, e)
		}
		if n, e := segcode.Size(s); n != 0 || e != api.ErrSeg {
			t.Errorf("Size(%v): %d %d", s, n, e)
		}
	}
}

func TestPlace(t *testing.T) {
	// P12.2: ErrArg, if there is no such place; behind the last byte there is one, with no byte for a Kind.
	b := []byte{1, 0, 1, 0, 1, 1}
	for _, at := range []int{-1, 7, 8, math.MinInt, math.MaxInt} {
		hold(t, b, at, api.Seg{}, 0, api.ErrArg)
	}
	hold(t, b, 6, api.Seg{}, 0, api.ErrShort)
	hold(t, nil, 0, api.Seg{}, 0, api.ErrShort)
	hold(t, nil, 1, api.Seg{}, 0, api.ErrArg)
	hold(t, b[:3], 4, api.Seg{}, 0, api.ErrArg)
}

func TestKind(t *testing.T) {
	// P12.2: a Kind from 1 to 4 goes on, each other byte does not.
	for kind := range 256 {
		want := api.ErrForm
		if 1 <= kind && kind <= 4 {
			want = api.ErrShort
		}
		holdError(t, []byte{byte(kind)}, want)
	}
}

// limit is a number that is held in limits as soon as it is got: what lies ahead of it, some that may stand there, though more must come, and some that may not.
type limit struct {
	ahead       []byte
	good, wrong []uint64
}

func limits() []limit {
	some := []uint64{1, 2, maxTime / 2, maxTime - 7}
	none := []uint64{maxTime + 1}
	counts, noCounts := []uint64{1, 2, 255, 256}, []uint64{0, 257}
	return []limit{
		{[]byte{4}, []uint64{0, 1, api.MaxEps - 1, api.MaxEps}, []uint64{api.MaxEps + 1}},
		{[]byte{1, 0}, counts, noCounts},
		{[]byte{2, 5, 1}, []uint64{0, 1, maxTime - 1, maxTime}, none},
		{[]byte{3, 5, 1, 7}, counts, noCounts},
		{[]byte{4, 5, 2, 7, 2}, append(some, 0), none},
		{[]byte{1, 0, 2, 0, 2, 1}, []uint64{0, 1, maxTime - 1, maxTime}, none},
		{[]byte{1, 0, 2, 0, 2, 1, 5}, counts, noCounts},
		{[]byte{1, 0, 2, 0, 2, 1, 5, 2}, some, none},
		{[]byte{3, 0, 1, 9, 1}, []uint64{0, 1, maxTime - 1, maxTime}, none},
		{[]byte{3, 0, 1, 9, 1, 1, 2}, []uint64{0, 1, maxTime - 1, maxTime}, none},
		{[]byte{2, 0, 1, 9, 1, 2}, []uint64{0, 1, maxTime - 1, maxTime}, none},
	}
}

func TestLimits(t *testing.T) {
	// P12.2: beyond its limit a number is ErrForm as soon as it is got, though nothing is behind it; vary's errors go ahead.
	far := []uint64{1 << 49, 1 << 56, 1 << 62, 1<<63 - 1, 1 << 63, 1<<63 + 1, 1<<63 + 256, math.MaxUint64}
	for _, x := range limits() {
		begun := func(more ...byte) []byte { return append(slices.Clone(x.ahead), more...) }
		holdError(t, x.ahead, api.ErrShort)
		holdError(t, begun(0x81), api.ErrShort)
		holdError(t, begun(0x81, 0), api.ErrForm)
		holdError(t, begun(bytes.Repeat([]byte{0xff}, 9)...), api.ErrShort)
		holdError(t, begun(bytes.Repeat([]byte{0xff}, 10)...), api.ErrForm)
		for _, n := range x.good {
			holdError(t, begun(laid(n)...), api.ErrShort)
		}
		for _, n := range append(x.wrong, far...) {
			holdError(t, begun(laid(n)...), api.ErrForm)
		}
	}
}

func TestNumbers(t *testing.T) {
	// P12.2: a line's numbers with a sign are told only with all of it, a raw's as soon as they are got.
	flat := []byte{1, 0, 1, 9, 1}
	tilt := []byte{2, 0, 1, 9, 1}
	raw := []byte{4, 0, 1, 9, 3, 1}
	for _, n := range []int64{maxBack + 1, -maxBack - 1, math.MaxInt64, math.MinInt64} {
		holdError(t, append(slices.Clone(flat), signed(n)...), api.ErrForm)
		holdError(t, append(slices.Clone(tilt), signed(n)...), api.ErrShort)
		holdError(t, append(slices.Clone(raw), signed(n)...), api.ErrForm)
		holdError(t, append(slices.Clone(raw), signed(0, n)...), api.ErrForm)
	}
	for _, n := range []int64{maxBack, -maxBack, 0} {
		b := append(slices.Clone(flat), signed(n)...)
		hold(t, b, 0, api.Seg{Kind: api.SegFlat, Runs: []api.Run{{From: 9, Count: 1}}, Line: api.Line{A: n, D: 1}}, len(b), api.OK)
		holdError(t, append(slices.Clone(raw), signed(n)...), api.ErrShort)
		holdError(t, append(slices.Clone(raw), signed(-n, 2*n)...), api.ErrShort)
		b = append(slices.Clone(raw), signed(-n, 2*n, -2*n)...)
		hold(t, b, 0, segrows.Numbers([]api.Run{{From: 9, Step: 1, Count: 3}}, -n, n, -n), len(b), api.OK)
	}
	for _, far := range []int64{math.MaxInt64, math.MaxInt64 - maxBack, math.MaxInt64 - maxBack + 1, 2*maxBack + 1} {
		holdError(t, append(slices.Clone(raw), signed(maxBack, far)...), api.ErrForm)
		holdError(t, append(slices.Clone(raw), signed(-maxBack, far)...), api.ErrForm)
		holdError(t, append(slices.Clone(raw), signed(maxBack, -far-1)...), api.ErrForm)
		holdError(t, append(slices.Clone(raw), signed(-maxBack, -far-1)...), api.ErrForm)
	}
}

func TestRuns(t *testing.T) {
	// P12.2: a last time is told behind its run, whether runs may be behind all of them, ahead of what the Kind has.
	cases := []struct {
		b    []byte
		want api.Errno
	}{
		{append([]byte{1, 0, 2}, laid(maxTime, 1)...), api.ErrShort},
		{append([]byte{1, 0, 2}, laid(maxTime, 2, 1)...), api.ErrForm},
		{append([]byte{1, 0, 2}, laid(maxTime-1, 2, 1)...), api.ErrShort},
		{append([]byte{1, 0, 2}, laid(maxTime-1, 3, 1)...), api.ErrForm},
		{append([]byte{1, 0, 2}, laid(0, 256, maxTime/255)...), api.ErrShort},
		{append([]byte{1, 0, 2}, laid(0, 256, maxTime/255+1)...), api.ErrForm},
		{append([]byte{1, 0, 2}, laid(maxTime, 256, maxTime)...), api.ErrForm},
		{append([]byte{1, 0, 3, 0, 2, 5}, laid(maxTime-5, 1)...), api.ErrShort},
		{append([]byte{1, 0, 3, 0, 2, 5}, laid(maxTime-4, 1)...), api.ErrForm},
		{[]byte{1, 0, 1, 0, 2, 0}, api.ErrForm},
		{[]byte{1, 0, 2, 0, 2, 0}, api.ErrShort},
		{[]byte{1, 0, 2, 0, 2, 0, 1, 1}, api.ErrForm},
		{[]byte{1, 0, 2, 0, 1, 1, 1}, api.ErrForm},
		{[]byte{1, 0, 3, 0, 1, 1, 1}, api.ErrShort},
		{[]byte{1, 0, 2, 3, 2, 2, 2, 1}, api.ErrForm},
		{[]byte{1, 0, 2, 3, 2, 2, 0, 1}, api.ErrForm},
		{[]byte{1, 0, 2, 3, 2, 2, 1, 1}, api.ErrShort},
		{append([]byte{1, 0, 2}, laid(0, 200, 1, 5, 56)...), api.ErrShort},
		{append([]byte{1, 0, 2}, laid(0, 200, 1, 5, 56, 1)...), api.ErrShort},
		{append([]byte{1, 0, 2}, laid(0, 200, 1, 5, 57, 1)...), api.ErrForm},
		{append([]byte{4, 0, 2}, laid(0, 200, 1, 5, 56, 1)...), api.ErrShort},
		{append([]byte{4, 0, 2}, laid(0, 200, 1, 5, 57, 1)...), api.ErrForm},
	}
	for _, x := range cases {
		holdError(t, x.b, x.want)
	}
}

func TestLines(t *testing.T) {
	// P12.2: what is left of a line is told at the end: what is no line, of another Kind, or beyond what may be told.
	three := []byte{0, 1, 9, 3, 1}
	tilt := func(n int64, d uint64, a int64) []byte {
		return slices.Concat([]byte{2}, three, signed(n), laid(d), signed(a))
	}
	free := func(r uint64, n int64, d uint64, a int64) []byte {
		return slices.Concat([]byte{3}, three, laid(r), signed(n), laid(d), signed(a))
	}
	for _, b := range [][]byte{
		tilt(0, 1, 5), tilt(0, 0, 5), tilt(1, 0, 5), tilt(2, 4, 5), tilt(1, 1, maxBack), tilt(-1, 1, -maxBack), tilt(1, 1, maxBack-1),
		tilt(math.MaxInt64, 1, 0), tilt(math.MinInt64, 1, 0), tilt(1, 2, math.MaxInt64), tilt(1, 2, math.MinInt64),
		free(0, 1, 2, 5), free(1, 0, 2, 5), free(2, 1, 2, 5), free(3, 1, 2, 5), free(1, 1, 1, 5), free(1, 1, 0, 5), free(1, 2, 4, 5),
		free(1, 1, 2, maxBack), free(maxTime, 1, maxTime, 5), free(1, math.MinInt64, 3, math.MinInt64),
	} {
		holdError(t, b, api.ErrForm)
		holdError(t, b[:len(b)-1], api.ErrShort)
	}
	l := []api.Run{{From: 9, Step: 1, Count: 3}}
	for _, x := range []struct {
		b []byte
		s api.Seg
	}{
		{tilt(1, 1, maxBack-2), api.Seg{Kind: api.SegTilt, Runs: l, Line: api.Line{A: maxBack - 2, N: 1, D: 1}}},
		{tilt(-1, maxTime, 0), api.Seg{Kind: api.SegTilt, Runs: l, Line: api.Line{N: -1, D: int64(maxTime)}}},
		{free(1, 1, 2, 5), api.Seg{Kind: api.SegFree, Runs: l, Line: api.Line{A: 5, R: 1, N: 1, D: 2}}},
		{free(maxTime-1, 1, maxTime, 5), api.Seg{Kind: api.SegFree, Runs: l, Line: api.Line{A: 5, R: api.MaxTime - 1, N: 1, D: api.MaxTime}}},
	} {
		hold(t, x.b, 0, x.s, len(x.b), api.OK)
	}
}

// next is how one number is got, by layer 2, and held in its limits.
func next(b []byte, at *int, e *api.Errno, least, most uint64) uint64 {
	if *e != api.OK {
		return 0
	}
	n, behind, err := vary.GetU(b, *at)
	if *at, *e = behind, err; err == api.OK && (n < least || n > most) {
		*e = api.ErrForm
	}
	return n
}

// nextSigned is so, with a sign and without limits.
func nextSigned(b []byte, at *int, e *api.Errno) int64 {
	if *e != api.OK {
		return 0
	}
	n, behind, err := vary.Get(b, *at)
	*at, *e = behind, err
	return n
}

// read goes by the chapter's words, rule by rule; once there is an error, nothing more is got.
func read(b []byte, at int) (s api.Seg, behind int, e api.Errno) {
	if at < 0 || at > len(b) {
		return s, 0, api.ErrArg
	}
	if at == len(b) {
		return s, 0, api.ErrShort
	}
	if b[at] < 1 || b[at] > 4 {
		return s, 0, api.ErrForm
	}
	s.Kind = int(b[at])
	at++
	s.Err = int64(next(b, &at, &e, 0, api.MaxEps))
	count := next(b, &at, &e, 1, api.MaxSegPoints)
	last := uint64(0)
	for i := uint64(0); i < count && e == api.OK; i++ {
		from := last + next(b, &at, &e, 0, maxTime)
		n, step := next(b, &at, &e, 1, api.MaxSegPoints), uint64(0)
		if n > 1 {
			step = next(b, &at, &e, 0, maxTime)
		}
		last = from + (n-1)*step
		if e == api.OK && last > maxTime {
			e = api.ErrForm
		}
		s.Runs = append(s.Runs, api.Run{From: int64(from), Step: int64(step), Count: int(n)})
	}
	if e == api.OK && runs.Check(s.Runs) != api.OK {
		e = api.ErrForm
	}
	readRest(b, &s, &at, &e)
	if e == api.OK && seg.Check(s) != api.OK {
		e = api.ErrForm
	}
	if e != api.OK {
		return api.Seg{}, 0, e
	}
	return s, at, api.OK
}

func readRest(b []byte, s *api.Seg, at *int, e *api.Errno) {
	if s.Kind == api.SegRaw {
		ahead := int64(0)
		for i := 0; i < runs.Count(s.Runs) && *e == api.OK; i++ {
			more := nextSigned(b, at, e)
			if more < -maxBack-ahead || more > maxBack-ahead {
				*e = api.ErrForm
			}
			ahead += more
			s.Raw = append(s.Raw, ahead)
		}
		return
	}
	s.Line.D = 1
	if s.Kind == api.SegFree {
		s.Line.R = int64(next(b, at, e, 0, maxTime))
	}
	if s.Kind != api.SegFlat {
		s.Line.N = nextSigned(b, at, e)
		s.Line.D = int64(next(b, at, e, 0, maxTime))
	}
	s.Line.A = nextSigned(b, at, e)
}

// holdRead holds Get against the chapter's words; and what is got has just those bytes.
func holdRead(t *testing.T, b []byte, at int) api.Errno {
	t.Helper()
	want, wantNext, wantE := read(b, at)
	hold(t, b, at, want, wantNext, wantE)
	if wantE != api.OK {
		return wantE
	}
	if own, e := segcode.Encode(want); !bytes.Equal(own, b[at:wantNext]) || e != api.OK {
		t.Fatalf("Get(%x, %d) is %v, and that is %x %d", b, at, want, own, e)
	}
	return api.OK
}

func TestShortBytes(t *testing.T) {
	// P12.2, P12.4: all rows of few small bytes.
	alphabet := []byte{0, 1, 2, 3, 4, 0x80, 0xff}
	met := map[api.Errno]int{}
	for _, kind := range []byte{0, 1, 2, 3, 4, 5} {
		l := [][]byte{{kind}}
		for range 6 {
			var longer [][]byte
			for _, b := range l {
				met[holdRead(t, b, 0)]++
				for _, more := range alphabet {
					longer = append(longer, append(slices.Clone(b), more))
				}
			}
			l = longer
			if kind < 1 || kind > 4 {
				l = l[:1]
			}
		}
		for _, b := range l {
			met[holdRead(t, b, 0)]++
			met[holdRead(t, append(b, 2, 1, 3, 4), 0)]++
		}
	}
	for _, e := range []api.Errno{api.OK, api.ErrShort, api.ErrForm} {
		if met[e] < 100 {
			t.Errorf("%d rows are %d: too few to tell", met[e], e)
		}
	}
}

func TestHurtBytes(t *testing.T) {
	// P12.2, P12.4: bytes that are changed, that are gone, and that are too many, one a time.
	for i, s := range segrows.All() {
		b := bytesOf(s)
		if len(b) < 100 && i%5 > 0 {
			continue
		}
		for place := 0; place < len(b); place += 1 + len(b)/50 {
			for _, v := range []byte{0, 1, b[place] + 1, b[place] - 1, b[place] ^ 0x80, 0xff} {
				hurt := slices.Clone(b)
				hurt[place] = v
				holdRead(t, hurt, 0)
				holdRead(t, slices.Insert(slices.Clone(b), place, v), 0)
			}
			holdRead(t, slices.Delete(slices.Clone(b), place, place+1), 0)
			holdRead(t, b, place)
		}
	}
}

func TestNothingIsShared(t *testing.T) {
	// P12.1, P12.2: what comes in stays, the room behind it, too, and what is answered is new.
	for _, s := range segrows.Good() {
		was := segrows.But(s, func(s *api.Seg) {})
		b, _ := segcode.Encode(s)
		again, _ := segcode.Encode(s)
		again[0], again[len(again)-1] = 99, 99
		_ = append(b, 99)
		if !seg.Same(s, was) || !bytes.Equal(b, bytesOf(s)) {
			t.Errorf("Encode(%v): %x", s, b)
		}
		room := append(slices.Clone(b), 7, 7, 7)
		got, _, _ := segcode.Get(room[:len(b)], 0)
		other, _ := segcode.Decode(room[:len(b)])
		clear(got.Runs)
		clear(got.Raw)
		_ = append(got.Runs, api.Run{From: 5})
		if !bytes.Equal(room, append(slices.Clone(b), 7, 7, 7)) || !seg.Same(other, s) {
			t.Errorf("Get(%x): the bytes are %x now, and the other one is %v", b, room, other)
		}
		clear(room)
		if !seg.Same(other, s) {
			t.Errorf("Decode(%x) keeps the bytes: %v", b, other)
		}
	}
}

func TestExamples(t *testing.T) {
	// P12.1 to P12.3: the chapter's examples.
	tilt := segrows.Example()
	raw := segrows.Numbers([]api.Run{{From: 3, Step: 2, Count: 2}, {From: 9, Count: 1}}, 7, 6, 6)
	flat := api.Seg{Kind: api.SegFlat, Runs: []api.Run{{Count: 1}}, Line: api.Line{A: -1, D: 1}}
	for _, x := range []struct {
		s api.Seg
		b []byte
	}{
		{tilt, []byte{2, 3, 1, 0x0a, 4, 2, 2, 2, 0x0a}},
		{raw, []byte{4, 0, 2, 3, 2, 2, 4, 1, 0x0e, 1, 0}},
		{flat, []byte{1, 0, 1, 0, 1, 1}},
	} {
		if b, e := segcode.Encode(x.s); !bytes.Equal(b, x.b) || e != api.OK {
			t.Errorf("Encode(%v): %x %d", x.s, b, e)
		}
		if n, e := segcode.Size(x.s); n != len(x.b) || e != api.OK {
			t.Errorf("Size(%v): %d %d", x.s, n, e)
		}
		hold(t, x.b, 0, x.s, len(x.b), api.OK)
	}
	holdError(t, []byte{1, 0, 1, 0, 1}, api.ErrShort)
	holdError(t, []byte{5}, api.ErrForm)
	holdError(t, []byte{1, 0, 2, 0, 1, 1, 1, 1}, api.ErrForm)
	if s, e := segcode.Decode([]byte{1, 0, 1, 0, 1, 1, 0}); !seg.Same(s, api.Seg{}) || e != api.ErrForm {
		t.Errorf("Decode, with a byte behind: %v %d", s, e)
	}
}
