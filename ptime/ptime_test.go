package ptime_test

import (
	"bytes"
	"math"
	"math/rand"
	"strings"
	"testing"

	"timesync/api"
	"timesync/ptime"
)

const (
	low  = math.MinInt
	high = math.MaxInt

	second = 1000000000
	begin  = 2208988800 * second // 1970
	maxSec = 1<<48 - 1
	// lastSec is the second of MaxTime.
	lastSec = 5791011200
)

// valid holds timestamps at the ends of their ranges, and some between them that
// are the same in each run.
func valid() []api.Stamp {
	list := []api.Stamp{
		{Sec: 0, Nano: 0}, {Sec: 0, Nano: 1}, {Sec: 1, Nano: 5}, {Sec: 0, Nano: 999999999}, {Sec: 10, Nano: 100000000}, {Sec: 1<<32 - 1, Nano: 65536}, {Sec: 1 << 32, Nano: 16777215},
		{Sec: lastSec - 1, Nano: 999999999}, {Sec: lastSec, Nano: 0}, {Sec: lastSec, Nano: 1}, {Sec: lastSec + 1, Nano: 0}, {Sec: maxSec, Nano: 0}, {Sec: maxSec, Nano: 999999999},
	}
	random := rand.New(rand.NewSource(1))
	for range 40 {
		list = append(list, api.Stamp{Sec: random.Intn(maxSec+1) >> random.Intn(48), Nano: random.Intn(second)})
	}
	return list
}

func invalid() []api.Stamp {
	return []api.Stamp{
		{Sec: -1, Nano: 0}, {Sec: -1, Nano: 999999999}, {Sec: maxSec + 1, Nano: 0}, {Sec: 0, Nano: -1}, {Sec: 0, Nano: second}, {Sec: 1, Nano: second + 5},
		{Sec: low, Nano: 0}, {Sec: high, Nano: 0}, {Sec: 0, Nano: low}, {Sec: 0, Nano: high}, {Sec: low, Nano: low}, {Sec: high, Nano: high}, {Sec: -2208988800, Nano: 0}, {Sec: high, Nano: 5}, {Sec: 1 << 32, Nano: 1 << 32},
	}
}

// P4.1
func TestCheck(t *testing.T) {
	for _, s := range valid() {
		if err := ptime.Check(s); err != api.OK {
			t.Errorf("Check(%v) = %d; want OK", s, err)
		}
	}
	for _, s := range invalid() {
		if err := ptime.Check(s); err != api.ErrRange {
			t.Errorf("Check(%v) = %d; want ErrRange", s, err)
		}
	}
}

// P4.1
func TestOf(t *testing.T) {
	if ptime.Epoch != 2208988800 {
		t.Errorf("Epoch is %d", ptime.Epoch)
	}
	for _, c := range []struct {
		t    int
		want api.Stamp
		err  api.Errno
	}{
		{begin, api.Stamp{}, api.OK}, {begin + 1, api.Stamp{Sec: 0, Nano: 1}, api.OK}, {2208988801000000005, api.Stamp{Sec: 1, Nano: 5}, api.OK},
		{begin + second - 1, api.Stamp{Sec: 0, Nano: 999999999}, api.OK}, {begin + second, api.Stamp{Sec: 1, Nano: 0}, api.OK},
		{api.MaxTime, api.Stamp{Sec: lastSec, Nano: 0}, api.OK}, {api.MaxTime + 1, api.Stamp{Sec: lastSec, Nano: 1}, api.OK}, {high, api.Stamp{Sec: 7014383236, Nano: 854775807}, api.OK},
		{2208988799999999999, api.Stamp{}, api.ErrRange}, {0, api.Stamp{}, api.ErrRange}, {-1, api.Stamp{}, api.ErrRange}, {low, api.Stamp{}, api.ErrRange},
	} {
		if s, err := ptime.Of(c.t); s != c.want || err != c.err {
			t.Errorf("Of(%d) = %v, %d; want %v, %d", c.t, s, err, c.want, c.err)
		}
	}
}

// P4.1
func TestTime(t *testing.T) {
	for _, c := range []struct {
		s    api.Stamp
		want int
		err  api.Errno
	}{
		{api.Stamp{}, begin, api.OK}, {api.Stamp{Sec: 0, Nano: 1}, begin + 1, api.OK}, {api.Stamp{Sec: 1, Nano: 5}, 2208988801000000005, api.OK}, {api.Stamp{Sec: 0, Nano: 999999999}, begin + 999999999, api.OK},
		{api.Stamp{Sec: lastSec, Nano: 0}, api.MaxTime, api.OK}, {api.Stamp{Sec: lastSec - 1, Nano: 999999999}, api.MaxTime - 1, api.OK},
		{api.Stamp{Sec: lastSec, Nano: 1}, 0, api.ErrRange}, {api.Stamp{Sec: lastSec + 1, Nano: 0}, 0, api.ErrRange}, {api.Stamp{Sec: lastSec + 1, Nano: 999999999}, 0, api.ErrRange},
		{api.Stamp{Sec: 7014383236, Nano: 854775807}, 0, api.ErrRange}, {api.Stamp{Sec: 7014383236, Nano: 854775808}, 0, api.ErrRange}, {api.Stamp{Sec: 7014383237, Nano: 0}, 0, api.ErrRange},
		// Without a check this instant would come out as an int near 0.
		{api.Stamp{Sec: 16237755274, Nano: 0}, 0, api.ErrRange},
		{api.Stamp{Sec: maxSec, Nano: 999999999}, 0, api.ErrRange},
	} {
		if at, err := ptime.Time(c.s); at != c.want || err != c.err {
			t.Errorf("Time(%v) = %d, %d; want %d, %d", c.s, at, err, c.want, c.err)
		}
	}
	for _, s := range invalid() {
		if at, err := ptime.Time(s); at != 0 || err != api.ErrRange {
			t.Errorf("Time(%v) = %d, %d; want 0, ErrRange", s, at, err)
		}
	}
}

// P4.2
func TestCorr(t *testing.T) {
	const most = 1<<47 - 1
	for _, c := range []struct {
		ns, want int
		err      api.Errno
	}{
		{0, 0, api.OK}, {3, 196608, api.OK}, {-1, -65536, api.OK}, {most, most * 65536, api.OK}, {-most - 1, low, api.OK},
		{most + 1, 0, api.ErrRange}, {-most - 2, 0, api.ErrRange}, {1 << 48, 0, api.ErrRange}, {1 << 62, 0, api.ErrRange}, {high, 0, api.ErrRange}, {low, 0, api.ErrRange},
	} {
		if corr, err := ptime.Corr(c.ns); corr != c.want || err != c.err {
			t.Errorf("Corr(%d) = %d, %d; want %d, %d", c.ns, corr, err, c.want, c.err)
		}
	}
}

// P4.2
func TestNanos(t *testing.T) {
	for _, c := range []struct{ corr, want int }{
		{0, 0}, {1, 0}, {65535, 0}, {65536, 1}, {196607, 2}, {196608, 3}, {-1, -1}, {-65536, -1}, {-65537, -2}, {high, 1<<47 - 1}, {low, -1 << 47}, {low + 1, -1 << 47},
	} {
		if ns := ptime.Nanos(c.corr); ns != c.want {
			t.Errorf("Nanos(%d) = %d; want %d", c.corr, ns, c.want)
		}
	}
}

// P4.2
func TestAddCorr(t *testing.T) {
	for _, c := range []struct {
		a, b, want int
		ok         bool
	}{
		{2, 3, 5, true}, {-2, -3, -5, true}, {0, 0, 0, true}, {high, 0, high, true}, {low, 0, low, true}, {high, low, -1, true}, {low, high, -1, true}, {high - 1, 1, high, true}, {-1, low + 1, low, true},
		{high, 1, high, false}, {1, high, high, false}, {high, high, high, false}, {1 << 62, 1 << 62, high, false},
		{low, -1, low, false}, {-1, low, low, false}, {low, low, low, false}, {-1 << 62, -1<<62 - 1, low, false},
	} {
		if sum, ok := ptime.AddCorr(c.a, c.b); sum != c.want || ok != c.ok {
			t.Errorf("AddCorr(%d, %d) = %d, %v; want %d, %v", c.a, c.b, sum, ok, c.want, c.ok)
		}
	}
}

// P4.3
func TestEncode(t *testing.T) {
	for _, c := range []struct {
		s    api.Stamp
		want []byte
	}{
		{api.Stamp{}, make([]byte, 10)}, {api.Stamp{Sec: 1, Nano: 5}, []byte{0, 0, 0, 0, 0, 1, 0, 0, 0, 5}},
		{api.Stamp{Sec: 0x010203040506, Nano: 0x0708090a}, []byte{1, 2, 3, 4, 5, 6, 7, 8, 9, 10}},
		{api.Stamp{Sec: maxSec, Nano: 999999999}, []byte{255, 255, 255, 255, 255, 255, 0x3b, 0x9a, 0xc9, 0xff}},
	} {
		if b, err := ptime.Encode(c.s); err != api.OK || !bytes.Equal(b, c.want) {
			t.Errorf("Encode(%v) = %v, %d; want %v", c.s, b, err, c.want)
		}
		if s, err := ptime.Decode(c.want); err != api.OK || s != c.s {
			t.Errorf("Decode(%v) = %v, %d; want %v", c.want, s, err, c.s)
		}
	}
	for _, s := range invalid() {
		if b, err := ptime.Encode(s); len(b) != 0 || err != api.ErrRange {
			t.Errorf("Encode(%v) = %v, %d; want ErrRange", s, b, err)
		}
	}
}

// P4.3
func TestDecodeErrors(t *testing.T) {
	tooGreat := []byte{0, 0, 0, 0, 0, 1, 0x3b, 0x9a, 0xca, 0x00}
	ones := bytes.Repeat([]byte{255}, 12)
	for _, c := range []struct {
		b    []byte
		want api.Errno
	}{
		{nil, api.ErrShort}, {[]byte{}, api.ErrShort}, {make([]byte, 1), api.ErrShort}, {make([]byte, 9), api.ErrShort}, {ones[:9], api.ErrShort},
		{make([]byte, 11), api.ErrLong}, {make([]byte, 1000), api.ErrLong}, {ones[:11], api.ErrLong}, {append(tooGreat[:10:10], 0), api.ErrLong},
		{tooGreat, api.ErrRange}, {ones[:10], api.ErrRange}, {[]byte{0, 0, 0, 0, 0, 0, 0x80, 0, 0, 0}, api.ErrRange},
	} {
		if s, err := ptime.Decode(c.b); s != (api.Stamp{}) || err != c.want {
			t.Errorf("Decode(%v) = %v, %d; want error %d", c.b, s, err, c.want)
		}
	}
}

// P4.3
func TestBytesAreNotShared(t *testing.T) {
	b, _ := ptime.Encode(api.Stamp{Sec: 1, Nano: 5})
	clear(b)
	if again, err := ptime.Encode(api.Stamp{Sec: 1, Nano: 5}); err != api.OK || !bytes.Equal(again, []byte{0, 0, 0, 0, 0, 1, 0, 0, 0, 5}) {
		t.Errorf("a result changed the next one: %v, %d", again, err)
	}
	arg := []byte{1, 2, 3, 4, 5, 6, 7, 8, 9, 10}
	ptime.Decode(arg)
	if !bytes.Equal(arg, []byte{1, 2, 3, 4, 5, 6, 7, 8, 9, 10}) {
		t.Errorf("Decode changed its argument: %v", arg)
	}
}

// P4.4
func TestText(t *testing.T) {
	for _, c := range []struct {
		s    api.Stamp
		want string
	}{
		{api.Stamp{}, "0.000000000"}, {api.Stamp{Sec: 1, Nano: 5}, "1.000000005"}, {api.Stamp{Sec: 0, Nano: 999999999}, "0.999999999"}, {api.Stamp{Sec: 10, Nano: 100000000}, "10.100000000"}, {api.Stamp{Sec: 120, Nano: 12345678}, "120.012345678"},
		{api.Stamp{Sec: maxSec, Nano: 0}, "281474976710655.000000000"},
	} {
		if text := ptime.Text(c.s); text != c.want {
			t.Errorf("Text(%v) = %q; want %q", c.s, text, c.want)
		}
		if s, err := ptime.Parse(c.want); s != c.s || err != api.OK {
			t.Errorf("Parse(%q) = %v, %d; want %v", c.want, s, err, c.s)
		}
	}
	for _, s := range invalid() {
		if text := ptime.Text(s); text != "" {
			t.Errorf("Text(%v) = %q; want no text", s, text)
		}
	}
}

// P4.4
func TestParseErrors(t *testing.T) {
	for _, text := range []string{
		"", ".", "0", "1", "1.", "1.0", "1.00000000", "1.0000000000", "1.0000000005", ".000000005", "000000005", "1000000005", "1,000000005", "1..000000005", "1.000000005.", ".1.000000005", "1.000000005.0", "1.0.00000005", "1.000.000.005",
		"01.000000005", "00.000000000", "+1.000000005", "-1.000000005", "-0.000000000", "1.+00000005", "1.-00000005", "1.-000000005", "1.+000000005", "1.0x0000005", "0x1.000000005", "1_0.000000005", "1.0_0000005", "1e3.000000000", "a.000000005", "1.00000000a",
		" 1.000000005", "1.000000005 ", "1.000000005\n", "1 .000000005", "1. 00000005", "1.00000 005", "1.00000000\x00", "1.0000000\xff5", "١.000000005",
		"281474976710656.000000000", "9223372036854775807.000000000", "9223372036854775808.000000000", "18446744073709551617.000000005", "1.99999999999999999999", strings.Repeat("9", 1000) + ".000000000", "1." + strings.Repeat("0", 1000),
	} {
		if s, err := ptime.Parse(text); s != (api.Stamp{}) || err != api.ErrText {
			t.Errorf("Parse(%q) = %v, %d; want ErrText", text, s, err)
		}
	}
}

// P4.5
func TestStampsComeBack(t *testing.T) {
	for _, s := range valid() {
		if at, err := ptime.Time(s); err == api.OK {
			if back, err := ptime.Of(at); back != s || err != api.OK {
				t.Errorf("Of(Time(%v)) = %v, %d", s, back, err)
			}
		} else if s.Sec < lastSec {
			t.Errorf("Time(%v) returns the error %d", s, err)
		}
		b, err := ptime.Encode(s)
		if err != api.OK || len(b) != 10 {
			t.Errorf("Encode(%v) = %v, %d", s, b, err)
		}
		if back, err := ptime.Decode(b); back != s || err != api.OK {
			t.Errorf("Decode(Encode(%v)) = %v, %d", s, back, err)
		}
		if back, err := ptime.Parse(ptime.Text(s)); back != s || err != api.OK {
			t.Errorf("Parse(%q) = %v, %d; want %v", ptime.Text(s), back, err, s)
		}
	}
}

// P4.5
func TestInstantsComeBack(t *testing.T) {
	list := []int{begin, begin + 1, begin + second - 1, begin + second, api.MaxTime - 1, api.MaxTime}
	random := rand.New(rand.NewSource(2))
	for range 40 {
		list = append(list, begin+random.Intn(api.MaxTime-begin))
	}
	for _, at := range list {
		s, err := ptime.Of(at)
		if err != api.OK || ptime.Check(s) != api.OK {
			t.Errorf("Of(%d) = %v, %d", at, s, err)
		}
		if back, err := ptime.Time(s); back != at || err != api.OK {
			t.Errorf("Time(Of(%d)) = %d, %d", at, back, err)
		}
	}
}

// P4.5
func TestCorrectionsComeBack(t *testing.T) {
	for _, ns := range []int{0, 1, -1, 5, -5, 65535, 65536, -65537, 1<<47 - 1, -1 << 47, 123456789, -123456789} {
		corr, err := ptime.Corr(ns)
		if back := ptime.Nanos(corr); back != ns || err != api.OK {
			t.Errorf("Nanos(Corr(%d)) = %d, %d", ns, back, err)
		}
	}
}
