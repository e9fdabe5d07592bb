package drift_test

import (
	"math"
	"math/big"
	"math/rand"
	"testing"

	"timesync/api"
	"timesync/drift"
)

const (
	low  = math.MinInt
	high = math.MaxInt

	billion = 1000000000
	most    = api.MaxTime
	maxRaw  = 2 * api.MaxSim
)

type interval = api.Interval

func between(lo, hi int) interval {
	return interval{Lo: lo, Hi: hi}
}

// intervals holds valid intervals.
func intervals() []interval {
	list := []interval{
		{}, between(5, 10), between(100, 200), between(1, 5), between(5, 9), between(-10, -5), between(-1, 1), between(0, 1), between(-1, 0), between(5, 5), between(6, 6), between(10, 11), between(-300, 300),
		between(most, most), between(-most, -most), between(-most, most), between(0, most), between(-most, 0), between(most-1, most), between(-most, 1-most), between(most-100, most-50), between(most-maxRaw, most-maxRaw), between(high-most, most),
		between(-most, high-most), between(-most, high-most+1), between(-most, high-most-1), between(-api.MaxSim, api.MaxSim), between(1<<60, 1<<61),
	}
	random := rand.New(rand.NewSource(11))
	for range 12 {
		size := 1 << (1 + random.Intn(61))
		lo := random.Intn(2*size) - size
		list = append(list, between(lo, lo+random.Intn(size)))
	}
	return list
}

// wrong holds intervals that are not valid.
func wrong() []interval {
	return []interval{
		between(1, 0), between(0, -1), between(10, -10), between(most, most-1), between(1-most, -most), between(most, -most),
		between(0, most+1), between(-most-1, 0), between(-most-1, most), between(-most, most+1), between(-most-1, most+1), between(most+1, most+1), between(-most-1, -most-1),
		between(low, high), between(high, low), between(low, low), between(high, high), between(low, 0), between(0, high),
	}
}

// durations holds raw durations that Elapsed takes, in order.
func durations() []int {
	return []int{
		0, 1, 2, 3, 30, 50, 100, 1998, 1999, 2000, 2001, 2002, 3998, 3999, 4000, 4001, 4002,
		billion - 1000000, billion - 500000, billion - 1, billion, billion + 1, billion + 2, billion + 500000, billion + 500001, 1 << 40,
		api.MaxSim - 1, api.MaxSim, api.MaxSim + 1, maxRaw - 1, maxRaw,
	}
}

func tolerances() []int {
	return []int{0, 1, 2, 999, 1000, 123457, 333333, api.MaxPPB - 1, api.MaxPPB}
}

func number(n int) *big.Int {
	return big.NewInt(int64(n))
}

// quotient returns n * 10^9 / d, rounded down.
func quotient(n, d int) int {
	p := new(big.Int).Mul(number(n), number(billion))
	// With a positive divisor, Div rounds down.
	return int(p.Div(p, number(d)).Int64())
}

// bounds is the reference for Elapsed.
func bounds(raw, tol int) (int, int) {
	return max(0, quotient(raw-1, billion+tol)+1), -quotient(-raw-1, billion-tol) - 1
}

func elapsed(t *testing.T, raw, tol int) (int, int) {
	t.Helper()
	a, b, e := drift.Elapsed(raw, tol)
	if e != api.OK {
		t.Errorf("Elapsed(%d, %d): error %d", raw, tol, e)
	}
	return a, b
}

func checkElapsed(t *testing.T, raw, tol, least, greatest int, err api.Errno) {
	t.Helper()
	if a, b, e := drift.Elapsed(raw, tol); a != least || b != greatest || e != err {
		t.Errorf("Elapsed(%d, %d) = %d, %d, %d; want %d, %d, %d", raw, tol, a, b, e, least, greatest, err)
	}
}

func checkAge(t *testing.T, iv interval, raw, tol int, want interval, err api.Errno) {
	t.Helper()
	if r, e := drift.Age(iv, raw, tol); r != want || e != err {
		t.Errorf("Age(%v, %d, %d) = %v, %d; want %v, %d", iv, raw, tol, r, e, want, err)
	}
}

func checkTrip(t *testing.T, iv interval, raw, hold, tol int, want interval, err api.Errno) {
	t.Helper()
	if r, e := drift.Trip(iv, raw, hold, tol); r != want || e != err {
		t.Errorf("Trip(%v, %d, %d, %d) = %v, %d; want %v, %d", iv, raw, hold, tol, r, e, want, err)
	}
}

func checkShift(t *testing.T, iv interval, d int, want interval, err api.Errno) {
	t.Helper()
	if r, e := drift.Shift(iv, d); r != want || e != err {
		t.Errorf("Shift(%v, %d) = %v, %d; want %v, %d", iv, d, r, e, want, err)
	}
}

// checkSum checks a result whose ends are sums, which are valid or an error.
func checkSum(t *testing.T, check func(want interval, err api.Errno), lo, hi *big.Int) {
	t.Helper()
	if lo.Cmp(number(-most)) < 0 || hi.Cmp(number(most)) > 0 {
		check(interval{}, api.ErrRange)
	} else {
		check(between(int(lo.Int64()), int(hi.Int64())), api.OK)
	}
}

func sum(a, b int) *big.Int {
	return new(big.Int).Add(number(a), number(b))
}

// P11.1
func TestCheck(t *testing.T) {
	for _, iv := range intervals() {
		if e := drift.Check(iv); e != api.OK {
			t.Errorf("Check(%v) = %d; want OK", iv, e)
		}
	}
	for _, iv := range wrong() {
		if e := drift.Check(iv); e != api.ErrRange {
			t.Errorf("Check(%v) = %d; want ErrRange", iv, e)
		}
	}
}

// P11.1
func TestElapsed(t *testing.T) {
	checkElapsed(t, billion, 500000, 999500249, 1000500251, api.OK)
	checkElapsed(t, 0, 0, 0, 0, api.OK)
	checkElapsed(t, 0, api.MaxPPB, 0, 1, api.OK)
	checkElapsed(t, 1, 0, 1, 1, api.OK)
	checkElapsed(t, 1, 1, 1, 2, api.OK)
	checkElapsed(t, 2, 1, 1, 3, api.OK)
	checkElapsed(t, 2002, api.MaxPPB, 2001, 2004, api.OK)
	checkElapsed(t, 1999, api.MaxPPB, 1998, 2001, api.OK)
	checkElapsed(t, 1998, api.MaxPPB, 1997, 1999, api.OK)
	checkElapsed(t, maxRaw, 0, maxRaw, maxRaw, api.OK)
	for _, raw := range durations() {
		for _, tol := range tolerances() {
			least, greatest := bounds(raw, tol)
			checkElapsed(t, raw, tol, least, greatest, api.OK)
		}
	}
}

// wrongDurations holds what Elapsed does not take.
func wrongDurations() []struct{ raw, tol int } {
	return []struct{ raw, tol int }{
		{-1, 0}, {-1, api.MaxPPB}, {low, 0}, {maxRaw + 1, 0}, {maxRaw + 1, api.MaxPPB}, {high, 0},
		{0, -1}, {100, -1}, {0, low}, {0, api.MaxPPB + 1}, {100, api.MaxPPB + 1}, {100, billion}, {100, -billion}, {0, high},
		{-1, -1}, {high, high}, {low, low}, {high, billion},
	}
}

// P11.1, P11.2, P11.3
func TestWrongDurations(t *testing.T) {
	for _, c := range wrongDurations() {
		checkElapsed(t, c.raw, c.tol, 0, 0, api.ErrRange)
		for _, iv := range intervals() {
			checkAge(t, iv, c.raw, c.tol, interval{}, api.ErrRange)
			checkTrip(t, iv, c.raw, 0, c.tol, interval{}, api.ErrRange)
			// The error of the duration counts before that of hold.
			checkTrip(t, iv, c.raw, high, c.tol, interval{}, api.ErrRange)
		}
	}
}

// P11.2
func TestAge(t *testing.T) {
	checkAge(t, between(5, 10), 100, 0, between(105, 110), api.OK)
	checkAge(t, between(-7, -7), billion, 500000, between(999500242, 1000500244), api.OK)
	checkAge(t, between(-3, 4), 0, 0, between(-3, 4), api.OK)
	checkAge(t, between(most-5, most-5), 5, 0, between(most, most), api.OK)
	checkAge(t, between(most-5, most-5), 6, 0, interval{}, api.ErrRange)
	checkAge(t, between(most-5, most-5), 5, 1, interval{}, api.ErrRange)
	checkAge(t, between(-most, most), 0, 0, between(-most, most), api.OK)
	checkAge(t, between(-most, most), 0, api.MaxPPB, interval{}, api.ErrRange)
	for _, iv := range intervals() {
		for _, raw := range durations() {
			for _, tol := range tolerances() {
				least, greatest := bounds(raw, tol)
				checkSum(t, func(want interval, err api.Errno) {
					t.Helper()
					checkAge(t, iv, raw, tol, want, err)
				}, sum(iv.Lo, least), sum(iv.Hi, greatest))
			}
		}
	}
}

// P11.3
func TestTrip(t *testing.T) {
	checkTrip(t, between(5, 10), 100, 30, 0, between(5, 80), api.OK)
	checkTrip(t, between(100, 200), 50, 0, 0, between(100, 250), api.OK)
	checkTrip(t, between(100, 200), 50, 50, 0, between(100, 200), api.OK)
	checkTrip(t, between(0, 0), billion, 0, 500000, between(0, 1000500251), api.OK)
	checkTrip(t, between(0, 0), billion, 1000500251, 500000, between(0, 0), api.OK)
	checkTrip(t, between(-most, most), maxRaw, maxRaw, 0, between(-most, most), api.OK)
	for _, iv := range intervals() {
		for _, raw := range durations() {
			for _, tol := range tolerances() {
				_, greatest := bounds(raw, tol)
				for _, hold := range []int{0, 1, greatest / 2, greatest - 1, greatest} {
					if hold < 0 || hold > greatest {
						continue
					}
					checkSum(t, func(want interval, err api.Errno) {
						t.Helper()
						checkTrip(t, iv, raw, hold, tol, want, err)
					}, number(iv.Lo), sum(iv.Hi, greatest-hold))
				}
				for _, hold := range []int{greatest + 1, greatest + 2, 3 * api.MaxSim, high} {
					checkTrip(t, iv, raw, hold, tol, interval{}, api.ErrOrder)
				}
				for _, hold := range []int{-1, -2, -billion, low} {
					checkTrip(t, iv, raw, hold, tol, interval{}, api.ErrRange)
				}
			}
		}
	}
}

// P11.3
func TestTripLimits(t *testing.T) {
	late := between(0, most-10)
	checkTrip(t, late, 10, 0, 0, between(0, most), api.OK)
	checkTrip(t, late, 11, 1, 0, between(0, most), api.OK)
	checkTrip(t, late, 11, 0, 0, interval{}, api.ErrRange)
	// What is wrong with hold counts before the result.
	checkTrip(t, late, 11, 12, 0, interval{}, api.ErrOrder)
	checkTrip(t, interval{}, 0, 1, 0, interval{}, api.ErrOrder)
	checkTrip(t, interval{}, 0, 2, 1, interval{}, api.ErrOrder)
	checkTrip(t, interval{}, 0, 1, 1, interval{}, api.OK)
}

// P11.2, P11.3, P11.4, P11.5
func TestWrongIntervals(t *testing.T) {
	good := between(-100, 100)
	for _, iv := range wrong() {
		for _, n := range []int{0, 1, -1, maxRaw, maxRaw + 1, most, -most, low, high, iv.Lo, iv.Hi} {
			// The interval counts before all other arguments.
			checkAge(t, iv, n, 0, interval{}, api.ErrArg)
			checkAge(t, iv, 0, n, interval{}, api.ErrArg)
			checkTrip(t, iv, n, 0, 0, interval{}, api.ErrArg)
			checkTrip(t, iv, 0, n, 0, interval{}, api.ErrArg)
			checkTrip(t, iv, 0, 0, n, interval{}, api.ErrArg)
			checkShift(t, iv, n, interval{}, api.ErrArg)
			if drift.Has(iv, n) {
				t.Errorf("Has(%v, %d) is true", iv, n)
			}
		}
		if w := drift.Width(iv); w != 0 {
			t.Errorf("Width(%v) = %d; want 0", iv, w)
		}
		for _, pair := range [][2]interval{{iv, good}, {good, iv}, {iv, iv}, {iv, between(-most, most)}, {between(-most, most), iv}} {
			checkMeet(t, pair[0], pair[1], interval{}, false)
			checkHull(t, pair[0], pair[1], interval{})
		}
	}
}

func checkMeet(t *testing.T, a, b, want interval, ok bool) {
	t.Helper()
	if r, got := drift.Meet(a, b); r != want || got != ok {
		t.Errorf("Meet(%v, %v) = %v, %v; want %v, %v", a, b, r, got, want, ok)
	}
}

func checkHull(t *testing.T, a, b, want interval) {
	t.Helper()
	if r := drift.Hull(a, b); r != want {
		t.Errorf("Hull(%v, %v) = %v; want %v", a, b, r, want)
	}
}

// P11.4
func TestMeetAndHull(t *testing.T) {
	for _, c := range []struct {
		a, b, meet interval
		ok         bool
		hull       interval
	}{
		{between(1, 5), between(5, 9), between(5, 5), true, between(1, 9)},
		{between(1, 5), between(6, 9), interval{}, false, between(1, 9)},
		{between(1, 5), between(1, 5), between(1, 5), true, between(1, 5)},
		{between(1, 9), between(3, 4), between(3, 4), true, between(1, 9)},
		{between(1, 9), between(3, 9), between(3, 9), true, between(1, 9)},
		{between(1, 9), between(1, 3), between(1, 3), true, between(1, 9)},
		{between(1, 7), between(3, 9), between(3, 7), true, between(1, 9)},
		{between(-9, -7), between(7, 9), interval{}, false, between(-9, 9)},
		{between(-1, 0), between(0, 1), between(0, 0), true, between(-1, 1)},
		{between(0, 0), between(1, 1), interval{}, false, between(0, 1)},
		{between(-most, most), between(2, 3), between(2, 3), true, between(-most, most)},
		{between(-most, -most), between(most, most), interval{}, false, between(-most, most)},
	} {
		checkMeet(t, c.a, c.b, c.meet, c.ok)
		checkMeet(t, c.b, c.a, c.meet, c.ok)
		checkHull(t, c.a, c.b, c.hull)
		checkHull(t, c.b, c.a, c.hull)
	}
}

// P11.4
func TestHas(t *testing.T) {
	for _, iv := range intervals() {
		for _, n := range []int{iv.Lo - 1, iv.Lo, iv.Lo + 1, iv.Hi - 1, iv.Hi, iv.Hi + 1, 0, most, -most, low, high} {
			want := iv.Lo <= n && n <= iv.Hi
			if got := drift.Has(iv, n); got != want {
				t.Errorf("Has(%v, %d) = %v; want %v", iv, n, got, want)
			}
		}
	}
}

// P11.4
func TestWidth(t *testing.T) {
	for _, c := range []struct {
		iv   interval
		want int
	}{
		{between(5, 5), 0}, {between(5, 10), 5}, {between(-5, 10), 15}, {between(-10, -5), 5}, {between(0, most), most}, {between(-most, 0), most},
		{between(-most, high-most-1), high - 1}, {between(-most, high-most), high}, {between(-most, high-most+1), high}, {between(-most, most), high}, {between(most-high, most), high}, {between(most-high+1, most), high - 1},
	} {
		if w := drift.Width(c.iv); w != c.want {
			t.Errorf("Width(%v) = %d; want %d", c.iv, w, c.want)
		}
	}
}

// P11.5
func TestShift(t *testing.T) {
	checkShift(t, between(5, 10), 3, between(8, 13), api.OK)
	checkShift(t, between(5, 10), -30, between(-25, -20), api.OK)
	checkShift(t, between(-most, -most), 2*(most/2), between(0, 0), api.OK)
	checkShift(t, between(-most, 5-most), -1, interval{}, api.ErrRange)
	checkShift(t, between(most-5, most), 1, interval{}, api.ErrRange)
	// A sum that is no int is out of range, too.
	checkShift(t, between(most, most), high, interval{}, api.ErrRange)
	checkShift(t, between(-most, -most), low, interval{}, api.ErrRange)
	checkShift(t, between(low+most, most), high-most+1, interval{}, api.ErrRange)
	for _, iv := range intervals() {
		for _, d := range []int{0, 1, -1, 1000, -1000, most, -most, most - iv.Hi, -most - min(0, iv.Lo), high, low, high / 2, low / 2} {
			checkSum(t, func(want interval, err api.Errno) {
				t.Helper()
				checkShift(t, iv, d, want, err)
			}, sum(iv.Lo, d), sum(iv.Hi, d))
		}
	}
}

// P11.6
func TestTrueDurations(t *testing.T) {
	for _, d := range durations() {
		if d > api.MaxSim {
			break
		}
		for _, tol := range tolerances() {
			for _, p := range []int{0, tol / 2, -tol / 2, tol - 1, 1 - tol, tol, -tol} {
				if p > tol || p < -tol {
					continue
				}
				product := new(big.Int).Mul(number(d), number(p))
				part, rest := product.DivMod(product, number(billion), new(big.Int))
				counted := d + int(part.Int64())
				checkContains(t, counted, tol, d)
				if rest.Sign() != 0 {
					checkContains(t, counted+1, tol, d)
				}
			}
		}
	}
}

func checkContains(t *testing.T, raw, tol, d int) {
	t.Helper()
	if a, b := elapsed(t, raw, tol); d < a || d > b {
		t.Errorf("Elapsed(%d, %d) = %d, %d; a duration of %d may count so much", raw, tol, a, b, d)
	}
}

// P11.7
func TestAgedIntervals(t *testing.T) {
	for _, iv := range intervals() {
		for i, tol := range tolerances() {
			before := iv
			for _, raw := range durations() {
				aged, e := drift.Age(iv, raw, tol)
				if e != api.OK {
					break
				}
				if drift.Width(aged) < drift.Width(iv) {
					t.Errorf("Age(%v, %d, %d) = %v, which is narrower", iv, raw, tol, aged)
				}
				if aged.Lo < before.Lo || aged.Hi < before.Hi {
					t.Errorf("Age(%v, %d, %d) = %v, and by a shorter duration %v", iv, raw, tol, aged, before)
				}
				before = aged
				for _, lesser := range tolerances()[:i] {
					if inner, e := drift.Age(iv, raw, lesser); e != api.OK || inner.Lo < aged.Lo || inner.Hi > aged.Hi {
						t.Errorf("Age(%v, %d, %d) = %v, and with the tolerance %d %v, %d", iv, raw, tol, aged, lesser, inner, e)
					}
				}
			}
		}
	}
}

// P11.4, P11.7
func TestMeetIsInBoth(t *testing.T) {
	for _, a := range intervals() {
		for _, b := range intervals() {
			both, ok := drift.Meet(a, b)
			hull := drift.Hull(a, b)
			for _, n := range []int{a.Lo, a.Hi, b.Lo, b.Hi, both.Lo, both.Hi, both.Lo - 1, both.Hi + 1, 0} {
				inA, inB := drift.Has(a, n), drift.Has(b, n)
				if in := ok && drift.Has(both, n); in != (inA && inB) {
					t.Errorf("Meet(%v, %v) = %v, %v: Has of %d is %v; of both %v, %v", a, b, both, ok, n, in, inA, inB)
				}
				if (inA || inB) && !drift.Has(hull, n) {
					t.Errorf("Hull(%v, %v) = %v does not contain %d", a, b, hull, n)
				}
			}
			if want := between(min(a.Lo, b.Lo), max(a.Hi, b.Hi)); hull != want {
				t.Errorf("Hull(%v, %v) = %v; want %v", a, b, hull, want)
			}
		}
	}
}
