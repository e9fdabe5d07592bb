package osc_test

import (
	"math"
	"math/big"
	"math/rand"
	"slices"
	"testing"

	"timesync/api"
	"timesync/drift"
	"timesync/osc"
)

const (
	low  = math.MinInt
	high = math.MaxInt

	billion = 1000000000
)

func oscillator(phase int, segs ...api.Segment) api.Osc {
	return api.Osc{Phase: phase, Segs: segs}
}

// many has so many segments, one at each second, fast and slow in turn.
func many(count int) api.Osc {
	var o api.Osc
	for i := range count {
		o.Segs = append(o.Segs, api.Segment{At: i * billion, PPB: (1 - 2*(i%2)) * (i + 1)})
	}
	return o
}

// drawn has segments that begin at times below a limit; the same random numbers
// draw the same oscillator.
func drawn(random *rand.Rand, limit, bound int) api.Osc {
	at := map[int]bool{0: true}
	for range random.Intn(api.MaxSegs) {
		at[random.Intn(limit)] = true
	}
	o := api.Osc{Phase: random.Intn(2*api.MaxSim+1) - api.MaxSim}
	for t := range at {
		o.Segs = append(o.Segs, api.Segment{At: t})
	}
	slices.SortFunc(o.Segs, func(a, b api.Segment) int { return a.At - b.At })
	for i := range o.Segs {
		o.Segs[i].PPB = random.Intn(2*bound+1) - bound
	}
	return o
}

// oscillators holds valid oscillators.
func oscillators() []api.Osc {
	list := []api.Osc{
		oscillator(0, api.Segment{}),
		oscillator(5, api.Segment{PPB: 1000}),
		oscillator(-7, api.Segment{PPB: -1}),
		oscillator(0, api.Segment{PPB: 1}),
		oscillator(api.MaxSim, api.Segment{PPB: api.MaxPPB}),
		oscillator(-api.MaxSim, api.Segment{PPB: -api.MaxPPB}),
		oscillator(0, api.Segment{}, api.Segment{At: billion, PPB: 1000}),
		oscillator(3, api.Segment{PPB: api.MaxPPB}, api.Segment{At: 1, PPB: -api.MaxPPB}, api.Segment{At: 2, PPB: api.MaxPPB}),
		oscillator(0, api.Segment{PPB: -api.MaxPPB}, api.Segment{At: 1, PPB: -api.MaxPPB}, api.Segment{At: 2000, PPB: api.MaxPPB}, api.Segment{At: 4000, PPB: -api.MaxPPB}),
		oscillator(1, api.Segment{PPB: -3}, api.Segment{At: api.MaxSim - 1, PPB: 4}, api.Segment{At: api.MaxSim, PPB: 5}),
		oscillator(1, api.Segment{PPB: api.MaxPPB}, api.Segment{At: api.MaxSim, PPB: -api.MaxPPB}),
		// The last nanosecond of true time gains one.
		oscillator(0, api.Segment{PPB: 29477}),
		many(2), many(api.MaxSegs - 1), many(api.MaxSegs),
	}
	random := rand.New(rand.NewSource(9))
	for _, limit := range []int{100, 1000000, 100 * billion, api.MaxSim} {
		for _, bound := range []int{1, 1000, api.MaxPPB} {
			for range 3 {
				list = append(list, drawn(random, limit, bound))
			}
		}
	}
	return list
}

// trueTimes returns true times near which readings of an oscillator change their
// ways, and some others, in order.
func trueTimes(o api.Osc) []int {
	list := []int{0, 1, 2, 3, 1998, 1999, 2000, 2001, 3999, 4000, 4001, billion - 1, billion, billion + 1, 1 << 40, api.MaxSim - 1, api.MaxSim}
	for _, s := range o.Segs {
		list = append(list, s.At-1, s.At, s.At+1, s.At+999999, s.At+1000000, s.At+billion)
	}
	random := rand.New(rand.NewSource(2))
	for range 30 {
		list = append(list, random.Intn(api.MaxSim+1), random.Intn(100*billion))
	}
	slices.Sort(list)
	return slices.DeleteFunc(slices.Compact(list), func(t int) bool { return t < 0 || t > api.MaxSim })
}

// gain returns the gain of an oscillator, in parts of a billionth nanosecond.
func gain(o api.Osc, t int) *big.Int {
	sum := new(big.Int)
	for i, s := range o.Segs {
		end := api.MaxSim
		if i+1 < len(o.Segs) {
			end = o.Segs[i+1].At
		}
		if before := min(t, end) - s.At; before > 0 {
			sum.Add(sum, new(big.Int).Mul(big.NewInt(int64(before)), big.NewInt(int64(s.PPB))))
		}
	}
	return sum
}

// reading is the reference for Read.
func reading(o api.Osc, t int) int {
	// With a positive divisor, Div rounds down.
	part := new(big.Int).Div(gain(o, t), big.NewInt(billion))
	return o.Phase + t + int(part.Int64())
}

func checkRead(t *testing.T, o api.Osc, at, want int, err api.Errno) {
	t.Helper()
	if n, e := osc.Read(o, at); n != want || e != err {
		t.Errorf("Read(%v, %d) = %d, %d; want %d, %d", o, at, n, e, want, err)
	}
}

func checkWhen(t *testing.T, o api.Osc, r, want int, err api.Errno) {
	t.Helper()
	if n, e := osc.When(o, r); n != want || e != err {
		t.Errorf("When(%v, %d) = %d, %d; want %d, %d", o, r, n, e, want, err)
	}
}

// P9.1
func TestCheck(t *testing.T) {
	for _, o := range oscillators() {
		if e := osc.Check(o); e != api.OK {
			t.Errorf("Check(%v) = %d; want OK", o, e)
		}
	}
}

// wrong holds oscillators that are not valid, with their errors.
func wrong() []struct {
	osc api.Osc
	err api.Errno
} {
	type seg = api.Segment
	long := many(api.MaxSegs + 1)
	longAndWrong := many(api.MaxSegs + 1)
	longAndWrong.Phase = high
	longAndWrong.Segs[0] = seg{At: -1, PPB: high}
	last := many(api.MaxSegs)
	last.Segs[api.MaxSegs-1].PPB = api.MaxPPB + 1
	return []struct {
		osc api.Osc
		err api.Errno
	}{
		{api.Osc{}, api.ErrEmpty},
		{api.Osc{Segs: []seg{}}, api.ErrEmpty},
		{oscillator(high), api.ErrEmpty},
		{long, api.ErrLong},
		{longAndWrong, api.ErrLong},
		{oscillator(api.MaxSim+1, seg{}), api.ErrRange},
		{oscillator(-api.MaxSim-1, seg{}), api.ErrRange},
		{oscillator(high, seg{At: 1}), api.ErrRange},
		{oscillator(low, seg{}, seg{}), api.ErrRange},
		{oscillator(0, seg{PPB: 600000}), api.ErrRange},
		{oscillator(0, seg{PPB: api.MaxPPB + 1}), api.ErrRange},
		{oscillator(0, seg{PPB: -api.MaxPPB - 1}), api.ErrRange},
		{oscillator(0, seg{PPB: low}), api.ErrRange},
		{oscillator(0, seg{PPB: high}), api.ErrRange},
		{oscillator(0, seg{At: -1}), api.ErrRange},
		{oscillator(0, seg{At: low}), api.ErrRange},
		{oscillator(0, seg{At: high}), api.ErrRange},
		{oscillator(0, seg{At: api.MaxSim + 1}), api.ErrRange},
		{oscillator(0, seg{At: 1, PPB: api.MaxPPB + 1}), api.ErrRange},
		{oscillator(0, seg{}, seg{At: api.MaxSim + 1}), api.ErrRange},
		{oscillator(0, seg{}, seg{At: -1}), api.ErrRange},
		{oscillator(0, seg{}, seg{At: 5}, seg{At: 4, PPB: -api.MaxPPB - 1}), api.ErrRange},
		{last, api.ErrRange},
		{oscillator(0, seg{At: 1}), api.ErrForm},
		{oscillator(0, seg{At: 1, PPB: 5}), api.ErrForm},
		{oscillator(0, seg{At: api.MaxSim}), api.ErrForm},
		{oscillator(0, seg{At: 1}, seg{At: -1}), api.ErrForm},
		{oscillator(0, seg{At: 1}, seg{At: 1}), api.ErrForm},
		{oscillator(0, seg{}, seg{}), api.ErrOrder},
		{oscillator(0, seg{PPB: 1}, seg{PPB: 2}), api.ErrOrder},
		{oscillator(0, seg{}, seg{At: 5}, seg{At: 5}), api.ErrOrder},
		{oscillator(0, seg{}, seg{At: 5}, seg{At: 4}), api.ErrOrder},
		{oscillator(0, seg{}, seg{At: 5}, seg{}), api.ErrOrder},
		{oscillator(0, seg{}, seg{At: 5}, seg{At: 4}, seg{At: -1}), api.ErrOrder},
	}
}

// P9.1, P9.2, P9.3
func TestWrongOscillators(t *testing.T) {
	for _, c := range wrong() {
		if e := osc.Check(c.osc); e != c.err {
			t.Errorf("Check(%v) = %d; want %d", c.osc, e, c.err)
		}
		for _, n := range []int{0, 1, -1, api.MaxSim + 1, low, high} {
			checkRead(t, c.osc, n, 0, c.err)
			checkWhen(t, c.osc, n, 0, c.err)
			if ppb := osc.Rate(c.osc, n); ppb != 0 {
				t.Errorf("Rate(%v, %d) = %d; want 0", c.osc, n, ppb)
			}
		}
		if ppb := osc.Bound(c.osc); ppb != 0 {
			t.Errorf("Bound(%v) = %d; want 0", c.osc, ppb)
		}
	}
}

// P9.1
func TestReadExamples(t *testing.T) {
	later := oscillator(0, api.Segment{}, api.Segment{At: billion, PPB: 1000})
	checkRead(t, oscillator(5, api.Segment{PPB: 1000}), 2000000, 2000007, api.OK)
	checkRead(t, oscillator(0, api.Segment{PPB: 1000}), 1000000, 1000001, api.OK)
	checkRead(t, later, billion, billion, api.OK)
	checkRead(t, later, 2*billion, 2*billion+1000, api.OK)
	checkRead(t, oscillator(42, api.Segment{PPB: -1}), 1, 42, api.OK)
	checkRead(t, oscillator(42, api.Segment{PPB: -1}), 0, 42, api.OK)
	// The gain is added up before it is rounded: half a nanosecond, twice.
	checkRead(t, oscillator(0, api.Segment{PPB: 500000}, api.Segment{At: 1000, PPB: 250000}), 3000, 3001, api.OK)
	// The gain is greater than an int.
	checkRead(t, oscillator(api.MaxSim, api.Segment{PPB: api.MaxPPB}), api.MaxSim, 2*api.MaxSim+562949953421, api.OK)
	checkRead(t, oscillator(-api.MaxSim, api.Segment{PPB: -api.MaxPPB}), api.MaxSim, -562949953422, api.OK)
}

// P9.1
func TestRead(t *testing.T) {
	for _, o := range oscillators() {
		for _, at := range trueTimes(o) {
			checkRead(t, o, at, reading(o, at), api.OK)
		}
	}
}

// P9.1
func TestReadRange(t *testing.T) {
	for _, o := range oscillators() {
		for _, at := range []int{-1, -2, -billion, low, api.MaxSim + 1, 2 * api.MaxSim, high} {
			checkRead(t, o, at, 0, api.ErrRange)
		}
	}
}

// P9.2
func TestWhenExamples(t *testing.T) {
	slow := oscillator(0, api.Segment{PPB: -500000})
	checkWhen(t, slow, 1998, 1999, api.OK)
	checkWhen(t, slow, 1999, 2000, api.OK)
	checkWhen(t, slow, 0, 0, api.OK)
	checkWhen(t, slow, 1, 2, api.OK)
	checkWhen(t, slow, low, 0, api.OK)
	// The readings at 1999 and 2000 are 1999 and 2001.
	fast := oscillator(0, api.Segment{PPB: 500000})
	checkWhen(t, fast, 1999, 1999, api.OK)
	checkWhen(t, fast, 2000, 2000, api.OK)
	checkWhen(t, fast, 2001, 2000, api.OK)
	checkWhen(t, fast, high, 0, api.ErrNone)
}

// P9.2
func TestWhenIsTheLeast(t *testing.T) {
	for _, o := range oscillators() {
		for _, at := range trueTimes(o) {
			for r := reading(o, at) - 2; r <= reading(o, at)+2; r++ {
				n, e := osc.When(o, r)
				switch {
				case r > reading(o, api.MaxSim):
					checkWhen(t, o, r, 0, api.ErrNone)
				case e != api.OK || n < 0 || n > api.MaxSim:
					t.Errorf("When(%v, %d) = %d, %d; want a true time, OK", o, r, n, e)
				case reading(o, n) < r || n > 0 && reading(o, n-1) >= r:
					t.Errorf("When(%v, %d) = %d, which is not the least true time that reads so much", o, r, n)
				}
			}
		}
	}
}

// P9.2
func TestWhenOfEachNanosecond(t *testing.T) {
	for _, o := range []api.Osc{
		oscillator(-3, api.Segment{PPB: -api.MaxPPB}, api.Segment{At: 2500, PPB: api.MaxPPB}, api.Segment{At: 5000, PPB: -api.MaxPPB}),
		oscillator(7, api.Segment{PPB: api.MaxPPB}, api.Segment{At: 999, PPB: -api.MaxPPB}, api.Segment{At: 6001, PPB: 123456}),
	} {
		first := 0
		for r := o.Phase - 2; r < o.Phase+9000; r++ {
			for reading(o, first) < r {
				first++
			}
			checkWhen(t, o, r, first, api.OK)
		}
	}
}

// P9.2
func TestWhenRange(t *testing.T) {
	for _, o := range oscillators() {
		last := reading(o, api.MaxSim)
		for _, r := range []int{last + 1, last + 2, last + billion, high} {
			checkWhen(t, o, r, 0, api.ErrNone)
		}
		for _, r := range []int{o.Phase, o.Phase - 1, o.Phase - billion, low} {
			checkWhen(t, o, r, 0, api.OK)
		}
	}
}

func checkRate(t *testing.T, o api.Osc, at, want int) {
	t.Helper()
	if ppb := osc.Rate(o, at); ppb != want {
		t.Errorf("Rate(%v, %d) = %d; want %d", o, at, ppb, want)
	}
}

// P9.3
func TestRate(t *testing.T) {
	for _, o := range oscillators() {
		for i, s := range o.Segs {
			checkRate(t, o, s.At, s.PPB)
			if i+1 < len(o.Segs) {
				checkRate(t, o, o.Segs[i+1].At-1, s.PPB)
				checkRate(t, o, (s.At+o.Segs[i+1].At)/2, s.PPB)
			}
		}
		first, last := o.Segs[0].PPB, o.Segs[len(o.Segs)-1].PPB
		for _, at := range []int{-1, -2, -billion, low} {
			checkRate(t, o, at, first)
		}
		for _, at := range []int{api.MaxSim, api.MaxSim + 1, 2 * api.MaxSim, high} {
			checkRate(t, o, at, last)
		}
	}
}

// P9.3
func TestBound(t *testing.T) {
	for _, c := range []struct {
		ppb  []int
		want int
	}{
		{[]int{0}, 0}, {[]int{7}, 7}, {[]int{-7}, 7}, {[]int{-7, 5}, 7}, {[]int{5, -7}, 7}, {[]int{7, -5, 0}, 7}, {[]int{-2, -9, 8, 9, -1}, 9}, {[]int{0, 0, 1}, 1},
		{[]int{api.MaxPPB}, api.MaxPPB}, {[]int{3, -api.MaxPPB}, api.MaxPPB},
	} {
		var o api.Osc
		for i, ppb := range c.ppb {
			o.Segs = append(o.Segs, api.Segment{At: 10 * i, PPB: ppb})
		}
		if b := osc.Bound(o); b != c.want {
			t.Errorf("Bound(%v) = %d; want %d", o, b, c.want)
		}
	}
	if b := osc.Bound(many(api.MaxSegs)); b != api.MaxSegs {
		t.Errorf("Bound of the last segment's PPB = %d; want %d", b, api.MaxSegs)
	}
}

// read returns a reading that there must be.
func read(t *testing.T, o api.Osc, at int) int {
	t.Helper()
	r, e := osc.Read(o, at)
	if e != api.OK {
		t.Errorf("Read(%v, %d): error %d", o, at, e)
	}
	return r
}

// P9.4
func TestReadingsDoNotFall(t *testing.T) {
	for _, o := range oscillators() {
		before := read(t, o, 0)
		for _, at := range trueTimes(o)[1:] {
			r := read(t, o, at)
			if r < before {
				t.Errorf("the reading of %v at %d is %d, and an earlier one is %d", o, at, r, before)
			}
			before = r
		}
		for at := range 5000 {
			if now, next := read(t, o, at), read(t, o, at+1); next < now {
				t.Errorf("the readings of %v at %d and one later are %d and %d", o, at, now, next)
			}
		}
	}
}

// P9.5
func TestDrift(t *testing.T) {
	for _, o := range oscillators() {
		times := trueTimes(o)
		for i, a := range times {
			for _, b := range times[i:] {
				d := b - a
				differs := read(t, o, b) - read(t, o, a) - d
				// |differs| < 1 + d*Bound/10^9, in billionths.
				most := new(big.Int).Mul(big.NewInt(int64(d)), big.NewInt(int64(osc.Bound(o))))
				most.Add(most, big.NewInt(billion))
				n := new(big.Int).Mul(big.NewInt(int64(differs)), big.NewInt(billion))
				if n.CmpAbs(most) >= 0 {
					t.Fatalf("the readings of %v at %d and %d are %d apart; Bound is %d", o, a, b, d+differs, osc.Bound(o))
				}
			}
		}
	}
}

// P9.6
func TestDividedSegments(t *testing.T) {
	for _, o := range oscillators() {
		if len(o.Segs) == api.MaxSegs {
			continue
		}
		for i, s := range o.Segs {
			end := api.MaxSim + 1
			if i+1 < len(o.Segs) {
				end = o.Segs[i+1].At
			}
			for _, cut := range []int{s.At + 1, s.At + 999, (s.At + end) / 2, end - 1} {
				if cut <= s.At || cut >= end {
					continue
				}
				divided := api.Osc{Phase: o.Phase, Segs: slices.Insert(slices.Clone(o.Segs), i+1, api.Segment{At: cut, PPB: s.PPB})}
				for _, at := range append(trueTimes(o), cut, cut-1) {
					checkRead(t, divided, at, read(t, o, at), api.OK)
				}
			}
		}
	}
}

// P9.6
func TestLaterSegments(t *testing.T) {
	for _, o := range oscillators() {
		for i, s := range o.Segs[1:] {
			earlier := api.Osc{Phase: o.Phase, Segs: o.Segs[:i+1]}
			for _, at := range []int{0, s.At / 2, s.At - 1, s.At} {
				checkRead(t, earlier, at, read(t, o, at), api.OK)
			}
		}
	}
}

// P9.7
func TestDurationsAreWithinBounds(t *testing.T) {
	for _, o := range oscillators() {
		bound := osc.Bound(o)
		times := trueTimes(o)
		for i, a := range times {
			for _, b := range times[i:] {
				raw := read(t, o, b) - read(t, o, a)
				for _, tol := range []int{bound, min(bound+1, api.MaxPPB), (bound + api.MaxPPB) / 2, api.MaxPPB} {
					least, most, e := drift.Elapsed(raw, tol)
					if e != api.OK || b-a < least || b-a > most {
						t.Fatalf("Elapsed(%d, %d) = %d, %d, %d; between the true times %d and %d the readings of %v rise by %d", raw, tol, least, most, e, a, b, o, raw)
					}
				}
			}
		}
	}
}

// P9.7
func TestEachNanosecondIsWithinBounds(t *testing.T) {
	slowFast := oscillator(0, api.Segment{PPB: -api.MaxPPB}, api.Segment{At: 2000, PPB: api.MaxPPB})
	for a := range 4100 {
		for b := a; b <= 4100; b += 1 + b%7 {
			raw := read(t, slowFast, b) - read(t, slowFast, a)
			least, most, e := drift.Elapsed(raw, api.MaxPPB)
			if e != api.OK || b-a < least || b-a > most {
				t.Fatalf("Elapsed(%d, MaxPPB) = %d, %d, %d; the true times are %d and %d", raw, least, most, e, a, b)
			}
		}
	}
}

// P9.1, P9.2, P9.3
func TestOscillatorsAreNotChanged(t *testing.T) {
	for _, o := range oscillators() {
		segs := append(slices.Clone(o.Segs), api.Segment{At: -5, PPB: -6})
		given := api.Osc{Phase: o.Phase, Segs: segs[:len(o.Segs)]}
		osc.Check(given)
		osc.Read(given, billion)
		osc.When(given, billion)
		osc.Rate(given, billion)
		osc.Bound(given)
		if !slices.Equal(segs, append(slices.Clone(o.Segs), api.Segment{At: -5, PPB: -6})) {
			t.Errorf("the segments of %v became %v", o, segs)
		}
	}
}
