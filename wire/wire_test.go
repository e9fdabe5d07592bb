package wire_test

import (
	"bytes"
	"math"
	"testing"

	"timesync/api"
	"timesync/wire"
)

func mustAppend(t *testing.T, b []byte, n uint64, size int) []byte {
	t.Helper()
	out, err := wire.Append(b, n, size)
	if err != api.OK {
		t.Fatalf("Append(%v, %d, %d): error %d", b, n, size, err)
	}
	return out
}

// most is the greatest number that fits a size.
func most(size int) uint64 {
	return math.MaxUint64 >> (64 - 8*size)
}

// P2.1
func TestAppend(t *testing.T) {
	for _, c := range []struct {
		b    []byte
		n    uint64
		size int
		want []byte
	}{
		{[]byte{7}, 258, 2, []byte{7, 1, 2}},
		{nil, 1 << 24, 4, []byte{1, 0, 0, 0}},
		{nil, 0, 1, []byte{0}},
		{[]byte{}, 255, 1, []byte{255}},
		{[]byte{9, 8}, 0, 3, []byte{9, 8, 0, 0, 0}},
		{nil, 0x0102030405060708, 8, []byte{1, 2, 3, 4, 5, 6, 7, 8}},
		{nil, 0x01020304050607, 7, []byte{1, 2, 3, 4, 5, 6, 7}},
		{nil, 0x010203040506, 6, []byte{1, 2, 3, 4, 5, 6}},
		{nil, 0x0102030405, 5, []byte{1, 2, 3, 4, 5}},
		{nil, 5, 8, []byte{0, 0, 0, 0, 0, 0, 0, 5}},
		{nil, math.MaxUint64, 8, []byte{255, 255, 255, 255, 255, 255, 255, 255}},
	} {
		if out, err := wire.Append(c.b, c.n, c.size); err != api.OK || !bytes.Equal(out, c.want) {
			t.Errorf("Append(%v, %d, %d) = %v, %d; want %v", c.b, c.n, c.size, out, err, c.want)
		}
	}
}

// P2.1
func TestAppendErrors(t *testing.T) {
	for _, c := range []struct {
		n    uint64
		size int
		want api.Errno
	}{
		{0, 0, api.ErrArg}, {0, 9, api.ErrArg}, {0, -1, api.ErrArg}, {0, math.MinInt, api.ErrArg}, {0, math.MaxInt, api.ErrArg},
		{math.MaxUint64, 0, api.ErrArg}, {math.MaxUint64, 9, api.ErrArg}, {256, -1, api.ErrArg},
		{256, 1, api.ErrRange}, {1 << 24, 3, api.ErrRange}, {math.MaxUint64, 1, api.ErrRange}, {1 << 63, 7, api.ErrRange},
	} {
		if out, err := wire.Append([]byte{1, 2}, c.n, c.size); err != c.want || len(out) != 0 {
			t.Errorf("Append of %d, size %d: %v, %d; want error %d", c.n, c.size, out, err, c.want)
		}
	}
	for size := 1; size < 8; size++ {
		if out, err := wire.Append(nil, most(size), size); err != api.OK || len(out) != size {
			t.Errorf("the greatest number of size %d: %v, %d", size, out, err)
		}
		if out, err := wire.Append(nil, most(size)+1, size); err != api.ErrRange || len(out) != 0 {
			t.Errorf("beyond the greatest number of size %d: %v, %d", size, out, err)
		}
	}
}

// P2.1, P2.7
func TestAppendIsNewMemory(t *testing.T) {
	room := []byte{1, 2, 3, 4, 5, 6}
	out := mustAppend(t, room[:2], 258, 2)
	if !bytes.Equal(room, []byte{1, 2, 3, 4, 5, 6}) {
		t.Errorf("Append wrote into its argument's memory: %v", room)
	}
	room[0] = 99
	if !bytes.Equal(out, []byte{1, 2, 1, 2}) {
		t.Errorf("the result changed with the argument: %v", out)
	}
	out[1] = 77
	if room[1] != 2 {
		t.Errorf("the argument changed with the result: %v", room)
	}
}

// P2.2
func TestGet(t *testing.T) {
	b := []byte{7, 1, 2, 255, 254, 253, 252, 251, 250, 249}
	for _, c := range []struct {
		at, size int
		want     uint64
	}{
		{1, 2, 258}, {0, 1, 7}, {9, 1, 249}, {8, 2, 250<<8 | 249}, {3, 1, 255}, {1, 3, 0x0102ff},
		{2, 4, 0x02fffefd}, {1, 5, 0x0102fffefd}, {1, 6, 0x0102fffefdfc}, {3, 7, 0xfffefdfcfbfaf9},
		{2, 8, 0x02fffefdfcfbfaf9}, {0, 8, 0x070102fffefdfcfb},
	} {
		if n, err := wire.Get(b, c.at, c.size); n != c.want || err != api.OK {
			t.Errorf("Get(%d, %d) = %#x, %d; want %#x", c.at, c.size, n, err, c.want)
		}
	}
	if n, err := wire.Get(bytes.Repeat([]byte{255}, 8), 0, 8); n != math.MaxUint64 || err != api.OK {
		t.Errorf("Get of the greatest number = %d, %d", n, err)
	}
}

// P2.2
func TestGetErrors(t *testing.T) {
	for _, c := range []struct {
		b        []byte
		at, size int
		want     api.Errno
	}{
		{[]byte{7, 1, 2}, 0, 0, api.ErrArg}, {[]byte{7, 1, 2}, 0, -1, api.ErrArg}, {make([]byte, 20), 0, 9, api.ErrArg},
		{[]byte{7, 1, 2}, -1, 0, api.ErrArg}, {[]byte{7, 1, 2}, 5, 9, api.ErrArg}, {nil, math.MinInt, math.MaxInt, api.ErrArg}, {nil, 0, math.MinInt, api.ErrArg},
		{[]byte{7, 1, 2}, 2, 2, api.ErrShort}, {[]byte{7, 1, 2}, 3, 1, api.ErrShort}, {[]byte{7, 1, 2}, 4, 1, api.ErrShort}, {[]byte{7, 1, 2}, 0, 4, api.ErrShort},
		{[]byte{7, 1, 2}, -1, 1, api.ErrShort}, {[]byte{7, 1, 2}, -1, 2, api.ErrShort}, {nil, 0, 1, api.ErrShort}, {[]byte{}, 0, 8, api.ErrShort},
		{[]byte{7, 1, 2}, math.MaxInt, 1, api.ErrShort}, {[]byte{7, 1, 2}, math.MaxInt, 8, api.ErrShort}, {[]byte{7, 1, 2}, math.MaxInt - 1, 2, api.ErrShort}, {[]byte{7, 1, 2}, math.MinInt, 8, api.ErrShort},
	} {
		if n, err := wire.Get(c.b, c.at, c.size); n != 0 || err != c.want {
			t.Errorf("Get(%v, %d, %d) = %d, %d; want error %d", c.b, c.at, c.size, n, err, c.want)
		}
	}
}

// P2.3
func TestReaderConsumes(t *testing.T) {
	r := wire.NewReader([]byte{1, 2, 255, 254, 9, 8, 7, 6, 5, 4})
	if n := r.Uint(2); n != 258 || r.Left() != 8 {
		t.Errorf("Uint(2) = %d, left %d", n, r.Left())
	}
	if n := r.Int(2); n != -2 || r.Left() != 6 {
		t.Errorf("Int(2) = %d, left %d", n, r.Left())
	}
	if b := r.Bytes(2); !bytes.Equal(b, []byte{9, 8}) || r.Left() != 4 {
		t.Errorf("Bytes(2) = %v, left %d", b, r.Left())
	}
	if r.Skip(1); r.Left() != 3 {
		t.Errorf("after Skip(1): left %d", r.Left())
	}
	if r.Skip(0); r.Left() != 3 || r.Err() != api.OK {
		t.Errorf("after Skip(0): left %d, error %d", r.Left(), r.Err())
	}
	if b := r.Bytes(3); !bytes.Equal(b, []byte{6, 5, 4}) || r.Left() != 0 {
		t.Errorf("Bytes(3) = %v, left %d", b, r.Left())
	}
	if b := r.Bytes(0); len(b) != 0 || r.Err() != api.OK {
		t.Errorf("Bytes(0) at the end = %v, error %d", b, r.Err())
	}
	if r.Skip(0); r.Err() != api.OK {
		t.Errorf("Skip(0) at the end: error %d", r.Err())
	}
}

// P2.3
func TestUintTakesAllSizes(t *testing.T) {
	for size := 1; size <= 8; size++ {
		r := wire.NewReader(bytes.Repeat([]byte{255}, 9))
		if n := r.Uint(size); n != most(size) || r.Left() != 9-size || r.Err() != api.OK {
			t.Errorf("Uint(%d) = %d, left %d, error %d", size, n, r.Left(), r.Err())
		}
	}
}

// consumers holds the four calls that consume, each with a valid argument and
// one that is not; each reports whether it returned 0 or no bytes.
func consumers() map[string]func(r *wire.Reader, n int) bool {
	return map[string]func(r *wire.Reader, n int) bool{
		"Uint":  func(r *wire.Reader, n int) bool { return r.Uint(n) == 0 },
		"Int":   func(r *wire.Reader, n int) bool { return r.Int(n) == 0 },
		"Bytes": func(r *wire.Reader, n int) bool { return len(r.Bytes(n)) == 0 },
		"Skip":  func(r *wire.Reader, n int) bool { r.Skip(n); return true },
	}
}

// P2.3
func TestReaderErrors(t *testing.T) {
	for _, c := range []struct {
		call string
		n    int
		want api.Errno
	}{
		{"Uint", 0, api.ErrArg}, {"Uint", 9, api.ErrArg}, {"Uint", -1, api.ErrArg}, {"Uint", math.MinInt, api.ErrArg}, {"Uint", math.MaxInt, api.ErrArg}, {"Uint", 4, api.ErrShort}, {"Uint", 8, api.ErrShort},
		{"Int", 0, api.ErrArg}, {"Int", 9, api.ErrArg}, {"Int", -1, api.ErrArg}, {"Int", math.MinInt, api.ErrArg}, {"Int", math.MaxInt, api.ErrArg}, {"Int", 4, api.ErrShort}, {"Int", 8, api.ErrShort},
		{"Bytes", -1, api.ErrArg}, {"Bytes", math.MinInt, api.ErrArg}, {"Bytes", 4, api.ErrShort}, {"Bytes", math.MaxInt, api.ErrShort},
		{"Skip", -1, api.ErrArg}, {"Skip", math.MinInt, api.ErrArg}, {"Skip", 4, api.ErrShort}, {"Skip", math.MaxInt, api.ErrShort},
	} {
		r := wire.NewReader([]byte{255, 254, 5})
		if zero := consumers()[c.call](r, c.n); !zero || r.Err() != c.want || r.Left() != 3 {
			t.Errorf("%s(%d): returned zero %v, error %d, left %d; want error %d, 3 left", c.call, c.n, zero, r.Err(), r.Left(), c.want)
		}
	}
}

// P2.3
func TestArgumentIsCheckedBeforeLength(t *testing.T) {
	for name, call := range consumers() {
		r := wire.NewReader(nil)
		if call(r, -1); r.Err() != api.ErrArg {
			t.Errorf("%s(-1) of no bytes: error %d", name, r.Err())
		}
	}
	for _, name := range []string{"Uint", "Int"} {
		for _, size := range []int{0, 9} {
			r := wire.NewReader([]byte{1})
			if consumers()[name](r, size); r.Err() != api.ErrArg {
				t.Errorf("%s(%d) of one byte: error %d", name, size, r.Err())
			}
		}
	}
}

// P2.3, P2.4
func TestFirstErrorStays(t *testing.T) {
	for first, fail := range map[api.Errno]func(r *wire.Reader){
		api.ErrArg:   func(r *wire.Reader) { r.Bytes(-1) },
		api.ErrShort: func(r *wire.Reader) { r.Skip(4) },
	} {
		for name, call := range consumers() {
			for _, n := range []int{1, 3, 0, -1, 4, 9, math.MaxInt, math.MinInt} {
				r := wire.NewReader([]byte{255, 254, 5})
				fail(r)
				if zero := call(r, n); !zero || r.Err() != first || r.Left() != 3 {
					t.Errorf("%s(%d) after error %d: returned zero %v, error %d, left %d", name, n, first, zero, r.Err(), r.Left())
				}
			}
		}
	}
}

// P2.4
func TestErrAndLeft(t *testing.T) {
	r := wire.NewReader([]byte{255, 254, 5})
	if r.Err() != api.OK || r.Left() != 3 {
		t.Errorf("a new reader: error %d, left %d", r.Err(), r.Left())
	}
	if n := r.Int(2); n != -2 || r.Left() != 1 || r.Err() != api.OK {
		t.Errorf("Int(2) = %d, left %d, error %d", n, r.Left(), r.Err())
	}
	if n := r.Uint(2); n != 0 || r.Left() != 1 || r.Err() != api.ErrShort {
		t.Errorf("Uint(2) = %d, left %d, error %d", n, r.Left(), r.Err())
	}
}

// P2.4
func TestZeroReader(t *testing.T) {
	var r wire.Reader
	if r.Left() != 0 || r.Err() != api.OK {
		t.Errorf("left %d, error %d", r.Left(), r.Err())
	}
	if b := r.Bytes(0); len(b) != 0 || r.Err() != api.OK {
		t.Errorf("Bytes(0) = %v, error %d", b, r.Err())
	}
	for name, call := range consumers() {
		var r wire.Reader
		if zero := call(&r, 1); !zero || r.Err() != api.ErrShort || r.Left() != 0 {
			t.Errorf("%s(1): returned zero %v, error %d, left %d", name, zero, r.Err(), r.Left())
		}
	}
	if none := wire.NewReader(nil); none.Left() != 0 || none.Err() != api.OK {
		t.Errorf("a reader of nil: left %d, error %d", none.Left(), none.Err())
	}
}

// P2.4
func TestNilReader(t *testing.T) {
	var r *wire.Reader
	for name, call := range consumers() {
		for _, n := range []int{1, 0, -1, 9} {
			if !call(r, n) {
				t.Errorf("%s(%d) of a nil reader", name, n)
			}
		}
	}
	if r.Left() != 0 || r.Err() != api.ErrNil {
		t.Errorf("left %d, error %d", r.Left(), r.Err())
	}
}

// P2.5
func TestWireRoundTrip(t *testing.T) {
	type number struct {
		n    uint64
		size int
	}
	var list []number
	for size := 1; size <= 8; size++ {
		top := most(size)
		for _, n := range []uint64{0, 1, 0x7f, top / 2, top/2 + 1, top - 1, top, 0xa1b2c3d4e5f60718 & top} {
			list = append(list, number{n, size})
		}
	}
	var b []byte
	var places []int
	for _, x := range list {
		places = append(places, len(b))
		b = mustAppend(t, b, x.n, x.size)
	}
	r := wire.NewReader(b)
	for i, x := range list {
		if n := r.Uint(x.size); n != x.n {
			t.Errorf("number %d of size %d: read %d; want %d", i, x.size, n, x.n)
		}
		if n, err := wire.Get(b, places[i], x.size); n != x.n || err != api.OK {
			t.Errorf("number %d of size %d: Get %d, %d; want %d", i, x.size, n, err, x.n)
		}
	}
	if r.Left() != 0 || r.Err() != api.OK {
		t.Errorf("left %d, error %d", r.Left(), r.Err())
	}
}

// P2.3, P2.6
func TestSignedNumbers(t *testing.T) {
	if r := wire.NewReader([]byte{128}); r.Int(1) != -128 || r.Err() != api.OK {
		t.Errorf("Int(1) of 128: error %d", r.Err())
	}
	for size := 1; size <= 8; size++ {
		high := int(most(size) / 2)
		low := -high - 1
		for _, want := range []int{low, low + 1, -100, -2, -1, 0, 1, 2, 100, high - 1, high} {
			b := mustAppend(t, nil, uint64(want)&most(size), size)
			r := wire.NewReader(append(b, 255))
			if n := r.Int(size); n != want || r.Left() != 1 || r.Err() != api.OK {
				t.Errorf("Int(%d) of %v = %d; want %d (left %d, error %d)", size, b, n, want, r.Left(), r.Err())
			}
		}
	}
}

// P2.3, P2.7
func TestReaderKeepsACopy(t *testing.T) {
	b := []byte{1, 2, 3, 4}
	r := wire.NewReader(b)
	b[0], b[1], b[2], b[3] = 9, 9, 9, 9
	if n := r.Uint(2); n != 258 {
		t.Errorf("Uint(2) after a change of the argument = %d", n)
	}
	if got := r.Bytes(2); !bytes.Equal(got, []byte{3, 4}) {
		t.Errorf("Bytes(2) after a change of the argument = %v", got)
	}
}

// P2.7
func TestBytesAreNewMemory(t *testing.T) {
	b := []byte{1, 2, 3, 4, 5, 6}
	r := wire.NewReader(b)
	first := r.Bytes(2)
	first[0] = 99
	// An append would overwrite the bytes that follow if the memory were shared.
	_ = append(first[:1], 99, 99, 99, 99)
	second := r.Bytes(2)
	if !bytes.Equal(second, []byte{3, 4}) {
		t.Errorf("the bytes that follow changed: %v", second)
	}
	second[1] = 88
	if n := r.Uint(2); n != 5<<8|6 {
		t.Errorf("the rest changed: %d", n)
	}
	if first[0] != 99 || !bytes.Equal(b, []byte{1, 2, 3, 4, 5, 6}) {
		t.Errorf("results or arguments share memory: %v, %v", first, b)
	}
}

// P2.7
func TestArgumentsStay(t *testing.T) {
	b := []byte{200, 201, 202, 203}
	if _, err := wire.Get(b, 1, 2); err != api.OK {
		t.Fatal(err)
	}
	r := wire.NewReader(b)
	r.Uint(1)
	r.Int(1)
	r.Bytes(1)
	r.Skip(1)
	if !bytes.Equal(b, []byte{200, 201, 202, 203}) {
		t.Errorf("the argument changed: %v", b)
	}
}
