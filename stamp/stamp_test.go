package stamp_test

import (
	"math"
	"math/big"
	"math/rand"
	"strings"
	"testing"

	"timesync/api"
	"timesync/stamp"
)

const (
	low  = math.MinInt
	high = math.MaxInt

	second  = 1000000000
	era     = 4294967296 * second
	halfEra = era / 2
)

// instants holds the instants at which seconds, eras and limits change, and
// some between them that are the same in each run.
func instants() []int {
	list := []int{}
	for _, t := range []int{0, second, halfEra, era, era + halfEra, -second, -halfEra, -era, -era - halfEra, api.MaxTime, -api.MaxTime, 3913056000 * second} {
		list = append(list, t-2, t-1, t, t+1, t+2)
	}
	list = append(list, low, low+1, high-1, high, 999999999, 1500000000, -1500000000)
	random := rand.New(rand.NewSource(1))
	for range 40 {
		list = append(list, int(random.Uint64())>>random.Intn(64))
	}
	return list
}

func isTime(t int) bool {
	return t >= -api.MaxTime && t <= api.MaxTime
}

// pivots holds the instants that may be pivots.
func pivots() []int {
	list := []int{}
	for _, t := range instants() {
		if isTime(t) {
			list = append(list, t)
		}
	}
	return list
}

// stamps holds the timestamps at which signs and seconds change, and some
// between them that are the same in each run.
func stamps() []uint64 {
	list := []uint64{
		0, 1, 4, 5, 1<<32 - 1, 1 << 32, 1<<32 + 1, 1<<63 - 1, 1 << 63, 1<<63 + 1, math.MaxUint64 - 4, math.MaxUint64,
		0x180000000, 0x0123456789abcdef, 0xfedcba9876543210, 0xffffffff00000000, 0x00000000ffffffff,
	}
	random := rand.New(rand.NewSource(2))
	for range 40 {
		list = append(list, random.Uint64())
	}
	return list
}

func exactFloor(n, factor, divisor int) *big.Int {
	product := new(big.Int).Mul(big.NewInt(int64(n)), big.NewInt(int64(factor)))
	return product.Div(product, big.NewInt(int64(divisor)))
}

func exactCeil(n *big.Int, factor, divisor int) *big.Int {
	product := new(big.Int).Mul(n, big.NewInt(int64(-factor)))
	product.Div(product, big.NewInt(int64(divisor)))
	return product.Neg(product)
}

// exactUnits returns the units of t, which need not be an int.
func exactUnits(t int) *big.Int {
	return exactFloor(t, 1<<32, second)
}

// exactTime returns what Time has to return for a valid pivot.
func exactTime(s uint64, pivot int) (int, api.Errno) {
	units := exactUnits(pivot)
	low64 := new(big.Int).And(units, new(big.Int).SetUint64(math.MaxUint64)).Uint64()
	units.Add(units, big.NewInt(int64(s-low64)))
	t := exactCeil(units, second, 1<<32)
	if !t.IsInt64() || !isTime(int(t.Int64())) {
		return 0, api.ErrRange
	}
	return int(t.Int64()), api.OK
}

// P3.1
func TestOf(t *testing.T) {
	for _, c := range []struct {
		t    int
		want uint64
	}{
		{0, 0}, {1, 4}, {2, 8}, {3, 12}, {4, 17}, {-1, 0xfffffffffffffffb}, {-2, 0xfffffffffffffff7}, {second, 1 << 32}, {-second, 0xffffffff00000000},
		{1500000000, 0x180000000}, {-1500000000, 0xfffffffe80000000}, {999999999, 0xfffffffb}, {halfEra, 1 << 63}, {-halfEra, 1 << 63},
		{era, 0}, {era - 1, 0xfffffffffffffffb}, {era + 1, 4}, {-era, 0}, {-era - 1, 0xfffffffffffffffb},
	} {
		if s := stamp.Of(c.t); s != c.want {
			t.Errorf("Of(%d) = %#x; want %#x", c.t, s, c.want)
		}
	}
	all := new(big.Int).SetUint64(math.MaxUint64)
	for _, at := range instants() {
		want := new(big.Int).And(exactUnits(at), all).Uint64()
		if s := stamp.Of(at); s != want {
			t.Errorf("Of(%d) = %#x; want %#x", at, s, want)
		}
	}
}

// P3.1
func TestEra(t *testing.T) {
	for _, c := range []struct{ t, want int }{
		{0, 0}, {1, 0}, {-1, -1}, {era - 1, 0}, {era, 1}, {2*era - 1, 1}, {2 * era, 2}, {-era, -1}, {-era - 1, -2}, {-2 * era, -2}, {-2*era - 1, -3},
		{api.MaxTime, 1}, {-api.MaxTime, -2}, {high, 2}, {low, -3},
	} {
		if n := stamp.Era(c.t); n != c.want {
			t.Errorf("Era(%d) = %d; want %d", c.t, n, c.want)
		}
	}
}

// P3.2
func TestDiff(t *testing.T) {
	const top = 1 << 63
	for _, c := range []struct {
		a, b uint64
		want int
	}{
		{0, 0, 0}, {5, 3, 2}, {3, 5, -2}, {math.MaxUint64, math.MaxUint64, 0}, {0, math.MaxUint64, 1}, {math.MaxUint64, 0, -1},
		{top - 1, 0, high}, {top, 0, low}, {0, top, low}, {top + 1, 0, low + 1}, {0, top - 1, -high}, {0, top + 1, high}, {2, math.MaxUint64 - 2, 5},
	} {
		if n := stamp.Diff(c.a, c.b); n != c.want {
			t.Errorf("Diff(%#x, %#x) = %d; want %d", c.a, c.b, n, c.want)
		}
	}
}

// P3.3
func TestTime(t *testing.T) {
	for _, c := range []struct {
		s           uint64
		pivot, want int
		err         api.Errno
	}{
		{0x180000000, 0, 1500000000, api.OK}, {0x180000000, era, 4294967297500000000, api.OK}, {0x180000000, -era, -era + 1500000000, api.OK},
		{0, 0, 0, api.OK}, {1, 0, 1, api.OK}, {4, 0, 1, api.OK}, {5, 0, 2, api.OK}, {math.MaxUint64, 0, 0, api.OK}, {math.MaxUint64 - 4, 0, -1, api.OK},
		{1<<63 - 1, 0, halfEra, api.OK}, {1 << 63, 0, -halfEra, api.OK}, {1<<63 + 1, 0, -halfEra + 1, api.OK},
		{1 << 63, 1, halfEra, api.OK}, {1<<63 + 4, 1, -halfEra + 1, api.OK}, {1<<63 - 5, -1, -halfEra - 1, api.OK},
		{0, halfEra, 0, api.OK}, {0, halfEra - 1, 0, api.OK}, {0, halfEra + 1, era, api.OK}, {0, -halfEra, -era, api.OK}, {0, -halfEra + 1, 0, api.OK},
		{stamp.Of(api.MaxTime), api.MaxTime, api.MaxTime, api.OK}, {stamp.Of(-api.MaxTime), -api.MaxTime, -api.MaxTime, api.OK},
		{stamp.Of(api.MaxTime), api.MaxTime - second, api.MaxTime, api.OK}, {stamp.Of(-api.MaxTime), -api.MaxTime + second, -api.MaxTime, api.OK},
		{stamp.Of(api.MaxTime) + 1, api.MaxTime, 0, api.ErrRange}, {stamp.Of(api.MaxTime + 1), api.MaxTime, 0, api.ErrRange}, {stamp.Of(-api.MaxTime - 1), -api.MaxTime, 0, api.ErrRange},
		{stamp.Of(api.MaxTime) + 1<<62, api.MaxTime, 0, api.ErrRange}, {stamp.Of(api.MaxTime) + (1<<63 - 1), api.MaxTime, 0, api.ErrRange},
		{stamp.Of(-api.MaxTime) - 1<<62, -api.MaxTime, 0, api.ErrRange}, {stamp.Of(-api.MaxTime) - 1<<63, -api.MaxTime, 0, api.ErrRange},
		{stamp.Of(api.MaxTime) + 1<<63, api.MaxTime, api.MaxTime - halfEra, api.OK},
	} {
		if at, err := stamp.Time(c.s, c.pivot); at != c.want || err != c.err {
			t.Errorf("Time(%#x, %d) = %d, %d; want %d, %d", c.s, c.pivot, at, err, c.want, c.err)
		}
	}
}

// P3.3
func TestTimeIsExact(t *testing.T) {
	for _, pivot := range pivots() {
		for _, s := range append(stamps(), stamp.Of(pivot), stamp.Of(pivot)+1<<63, stamp.Of(pivot)+(1<<63-1)) {
			want, wantErr := exactTime(s, pivot)
			if at, err := stamp.Time(s, pivot); at != want || err != wantErr {
				t.Errorf("Time(%#x, %d) = %d, %d; want %d, %d", s, pivot, at, err, want, wantErr)
			}
		}
	}
}

// P3.3
func TestTimeWithoutPivot(t *testing.T) {
	for _, pivot := range []int{api.MaxTime + 1, -api.MaxTime - 1, high, low} {
		for _, s := range append(stamps(), stamp.Of(pivot)) {
			if at, err := stamp.Time(s, pivot); at != 0 || err != api.ErrArg {
				t.Errorf("Time(%#x, %d) = %d, %d; want 0, ErrArg", s, pivot, at, err)
			}
		}
	}
}

// P3.4
func TestUnits(t *testing.T) {
	for _, c := range []struct {
		ns, want int
		ok       bool
	}{
		{0, 0, true}, {1, 4, true}, {-1, -5, true}, {second, 1 << 32, true}, {1500000000, 6442450944, true}, {-1500000000, -6442450944, true},
		{halfEra - 1, high - 4, true}, {halfEra, 0, false}, {halfEra + 1, 0, false}, {-halfEra, low, true}, {-halfEra - 1, 0, false},
		{era, 0, false}, {-era, 0, false}, {high, 0, false}, {low, 0, false},
	} {
		if n, ok := stamp.Units(c.ns); n != c.want || ok != c.ok {
			t.Errorf("Units(%d) = %d, %v; want %d, %v", c.ns, n, ok, c.want, c.ok)
		}
	}
	for _, ns := range instants() {
		exact := exactUnits(ns)
		want := 0
		if exact.IsInt64() {
			want = int(exact.Int64())
		}
		if n, ok := stamp.Units(ns); n != want || ok != exact.IsInt64() {
			t.Errorf("Units(%d) = %d, %v; want %d, %v", ns, n, ok, want, exact.IsInt64())
		}
	}
}

// P3.4
func TestNanos(t *testing.T) {
	for _, c := range []struct{ units, want int }{
		{0, 0}, {1, 1}, {4, 1}, {5, 2}, {-1, 0}, {-4, 0}, {-5, -1}, {1 << 32, second}, {1<<32 + 1, second + 1}, {1<<32 - 1, second}, {1<<32 - 5, second - 1},
		{-1 << 32, -second}, {-1<<32 - 5, -second - 1}, {6442450944, 1500000000}, {high, halfEra}, {low, -halfEra}, {low + 1, -halfEra + 1},
	} {
		if n := stamp.Nanos(c.units); n != c.want {
			t.Errorf("Nanos(%d) = %d; want %d", c.units, n, c.want)
		}
	}
	for _, units := range instants() {
		want := exactCeil(big.NewInt(int64(units)), second, 1<<32)
		if n := stamp.Nanos(units); int64(n) != want.Int64() {
			t.Errorf("Nanos(%d) = %d; want %v", units, n, want)
		}
	}
}

// P3.5
func TestShort(t *testing.T) {
	// The greatest duration of 2^32 - 1 units is 65535999984741.2 ns.
	const most = 65535999984741
	for _, c := range []struct {
		ns   int
		want uint32
		err  api.Errno
	}{
		{0, 0, api.OK}, {1, 1, api.OK}, {15258, 1, api.OK}, {15259, 2, api.OK}, {30517, 2, api.OK}, {30518, 3, api.OK},
		{second, 65536, api.OK}, {second - 1, 65536, api.OK}, {second + 1, 65537, api.OK}, {1500000000, 98304, api.OK},
		{most, math.MaxUint32, api.OK}, {most - 15259, math.MaxUint32 - 1, api.OK},
		{most + 1, 0, api.ErrRange}, {65536 * second, 0, api.ErrRange}, {65536*second + 1, 0, api.ErrRange}, {era, 0, api.ErrRange}, {high, 0, api.ErrRange},
		{-1, 0, api.ErrRange}, {-15259, 0, api.ErrRange}, {-era, 0, api.ErrRange}, {low, 0, api.ErrRange},
	} {
		if s, err := stamp.Short(c.ns); s != c.want || err != c.err {
			t.Errorf("Short(%d) = %d, %d; want %d, %d", c.ns, s, err, c.want, c.err)
		}
	}
}

// P3.5
func TestLong(t *testing.T) {
	for _, c := range []struct {
		s    uint32
		want int
	}{
		{0, 0}, {1, 15259}, {2, 30518}, {128, 1953125}, {129, 1968384}, {65535, 999984742}, {65536, second}, {65537, 1000015259}, {98304, 1500000000},
		{1 << 31, 32768 * second}, {math.MaxUint32, 65535999984742},
	} {
		if ns := stamp.Long(c.s); ns != c.want {
			t.Errorf("Long(%d) = %d; want %d", c.s, ns, c.want)
		}
	}
}

// P3.6
func TestText(t *testing.T) {
	for _, c := range []struct {
		s    uint64
		want string
	}{
		{0, "00000000.00000000"}, {1, "00000000.00000001"}, {1 << 32, "00000001.00000000"}, {0x180000000, "00000001.80000000"},
		{0x0123456789abcdef, "01234567.89abcdef"}, {0xfedcba9876543210, "fedcba98.76543210"}, {math.MaxUint64, "ffffffff.ffffffff"}, {1 << 63, "80000000.00000000"},
	} {
		if text := stamp.Text(c.s); text != c.want {
			t.Errorf("Text(%#x) = %q; want %q", c.s, text, c.want)
		}
		if s, err := stamp.Parse(c.want); s != c.s || err != api.OK {
			t.Errorf("Parse(%q) = %#x, %d; want %#x", c.want, s, err, c.s)
		}
	}
	for _, s := range stamps() {
		if back, err := stamp.Parse(stamp.Text(s)); back != s || err != api.OK {
			t.Errorf("Parse(%q) = %#x, %d; want %#x", stamp.Text(s), back, err, s)
		}
	}
}

// P3.6
func TestParseErrors(t *testing.T) {
	for _, text := range []string{
		"", ".", "0", "0.0", "00000001.8000000", "0000001.80000000", "00000001.800000000", "000000001.80000000", "0000000180000000", "00000001080000000",
		"00000001,80000000", "00000001:80000000", "0000000.180000000", "000000018.0000000", "........0........", "00000001..0000000", ".0000001.80000000", "00000001.8000000.",
		"0000000A.80000000", "0000000F.00000000", "00000000.0000000F", "0000000g.00000000", "00000000.0000000g", "g0000000.00000000", "0000000/.00000000", "0000000:.00000000", "0000000`.00000000",
		"+0000001.80000000", "-0000001.80000000", "0x000001.80000000", "0000_001.80000000", " 0000001.80000000", "00000001.80000000\n", "00000001.80000000 ", " 00000001.80000000", "00000001.8000000 ",
		"0000000\x00.00000000", "0000000é.0000000", "000000é.00000000", "00000001.800000\xff0", strings.Repeat("0", 1000), strings.Repeat("00000001.80000000", 2),
	} {
		if s, err := stamp.Parse(text); s != 0 || err != api.ErrText {
			t.Errorf("Parse(%q) = %#x, %d; want 0, ErrText", text, s, err)
		}
	}
}

// P3.7
func TestThereAndBack(t *testing.T) {
	away := []int{0, 1, -1, second, -second, halfEra / 3, -halfEra / 3, halfEra - 2, halfEra - 1, -halfEra + 2, -halfEra + 1}
	for _, at := range pivots() {
		for _, d := range away {
			pivot := at + d
			if !isTime(pivot) {
				continue
			}
			if back, err := stamp.Time(stamp.Of(at), pivot); back != at || err != api.OK {
				t.Errorf("Time(Of(%d), %d) = %d, %d", at, pivot, back, err)
			}
		}
	}
}

// P3.8
func TestTimeIsNearest(t *testing.T) {
	for _, pivot := range pivots() {
		for _, s := range stamps() {
			at, err := stamp.Time(s, pivot)
			if err != api.OK {
				continue
			}
			distance := new(big.Int).Sub(big.NewInt(int64(at)), big.NewInt(int64(pivot)))
			if distance.CmpAbs(big.NewInt(halfEra+1)) > 0 {
				t.Errorf("Time(%#x, %d) = %d, which is %v away", s, pivot, at, distance)
			}
			if later := stamp.Diff(stamp.Of(at), s); later < 0 || later > 4 {
				t.Errorf("Time(%#x, %d) = %d, whose timestamp is %d units later", s, pivot, at, later)
			}
		}
	}
}

// P3.9
func TestRounding(t *testing.T) {
	for _, ns := range instants() {
		if units, ok := stamp.Units(ns); ok {
			if back := stamp.Nanos(units); back != ns {
				t.Errorf("Nanos(Units(%d)) = %d", ns, back)
			}
		}
		if short, err := stamp.Short(ns); err == api.OK {
			if back := stamp.Long(short); back < ns || back-ns >= 15260 {
				t.Errorf("Long(Short(%d)) = %d", ns, back)
			}
		}
	}
}

// P3.10
func TestOrder(t *testing.T) {
	for _, earlier := range instants() {
		for _, d := range []int{0, 1, 2, second, halfEra / 7, halfEra - 2, halfEra - 1} {
			later := earlier + d
			if later < earlier {
				continue
			}
			if n := stamp.Diff(stamp.Of(later), stamp.Of(earlier)); n < 0 {
				t.Errorf("Diff(Of(%d), Of(%d)) = %d", later, earlier, n)
			}
		}
	}
}
