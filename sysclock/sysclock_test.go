package sysclock_test

import (
	"math"
	"math/big"
	"math/rand"
	"testing"

	"timesync/api"
	"timesync/sysclock"
)

const (
	low  = math.MinInt
	high = math.MaxInt

	billion = 1000000000
	limit   = 4 * api.MaxSim
)

type state = api.ClockState

func sign(n int) int {
	switch {
	case n > 0:
		return 1
	case n < 0:
		return -1
	}
	return 0
}

// part returns n * m / 10^9 rounded down, of numbers whose quotient is an int.
func part(n, m int) int {
	p := new(big.Int).Mul(big.NewInt(int64(n)), big.NewInt(int64(m)))
	// With a positive divisor, Div rounds down.
	return int(p.Div(p, big.NewInt(billion)).Int64())
}

// slewEnd returns the length of the slew of a state, or a great number if it is greater.
func slewEnd(s state) int {
	if s.Left == 0 {
		return 0
	}
	n := new(big.Int).Mul(big.NewInt(int64(-s.Left*sign(s.Left))), big.NewInt(billion))
	n.Neg(n.Div(n, big.NewInt(int64(s.Rate))))
	if n.Cmp(big.NewInt(1<<60)) > 0 {
		return 1 << 60
	}
	return int(n.Int64())
}

// shown is the reference for the time shown in a state.
func shown(s state, raw int) int {
	e, end := raw-s.Raw, slewEnd(s)
	slewing := min(e, end)
	time := s.Time + slewing + part(slewing, s.PPB+sign(s.Left)*s.Rate)
	if e > end {
		time += e - end + part(e-end, s.PPB)
	}
	return time
}

// moved is the reference for moving a state.
func moved(s state, raw int) state {
	m := s
	m.Time, m.Raw = shown(s, raw), raw
	m.Left -= sign(s.Left) * min(s.Left*sign(s.Left), part(raw-s.Raw, s.Rate))
	if m.Left == 0 {
		m.Rate = 0
	}
	return m
}

// nowError is the reference for the error of Now.
func nowError(s state, raw int) api.Errno {
	switch {
	case raw < s.Raw:
		return api.ErrOrder
	case raw > limit:
		return api.ErrRange
	case shown(s, raw) < -limit || shown(s, raw) > limit:
		return api.ErrRange
	}
	return api.OK
}

// states holds valid states.
func states() []state {
	list := []state{
		{}, {Raw: 1000, Time: 5000}, {Raw: -1000, Time: 3, PPB: 1}, {Raw: 7, Time: -7, PPB: -1, Steps: 3}, {PPB: api.MaxPPB}, {PPB: -api.MaxPPB},
		{Left: 10, Rate: 1000}, {Left: -10, Rate: 1000}, {PPB: 300, Left: 1, Rate: 1}, {PPB: -300, Left: -1, Rate: 1}, {Left: 1, Rate: api.MaxPPB}, {Left: 3, Rate: 7},
		{PPB: api.MaxPPB, Left: 500, Rate: api.MaxPPB}, {PPB: -api.MaxPPB, Left: -500, Rate: api.MaxPPB}, {PPB: -api.MaxPPB, Left: 500, Rate: api.MaxPPB}, {PPB: 999, Left: -77777, Rate: 333333},
		{Raw: -limit, Time: -limit, Left: limit, Rate: 1}, {Raw: -limit, Time: -limit, Left: limit, Rate: api.MaxPPB, PPB: api.MaxPPB}, {Raw: -limit, Time: limit, Left: -limit, Rate: api.MaxPPB, PPB: -api.MaxPPB, Steps: high},
		{Raw: limit, Time: limit, PPB: 5, Left: 5, Rate: 5, Steps: 5}, {Raw: limit, Time: -limit, Left: -limit, Rate: 1}, {Raw: -limit, Time: -limit}, {Raw: -5, Time: limit - 10, PPB: -1},
		// Nothing is left to be slewed, but a rate is kept.
		{Rate: 5}, {Raw: 3, Time: 9, PPB: 77, Rate: api.MaxPPB, Steps: 2},
	}
	random := rand.New(rand.NewSource(10))
	for range 60 {
		size := 1 << (3 + random.Intn(48))
		list = append(list, state{
			Raw: random.Intn(2*size) - size, Time: random.Intn(2*size) - size, PPB: random.Intn(2*api.MaxPPB+1) - api.MaxPPB,
			Left: random.Intn(2*size) - size, Rate: 1 + random.Intn(api.MaxPPB), Steps: random.Intn(3),
		})
	}
	return list
}

// raws returns raw readings near which a state changes its ways, and some others;
// some lie before the state's or beyond the limit.
func raws(s state) []int {
	list := []int{low, -limit - 1, -limit, -1, 0, 1, limit - 1, limit, limit + 1, high, s.Raw - billion}
	for _, e := range []int{0, slewEnd(s)} {
		for d := -3; d <= 3; d++ {
			list = append(list, s.Raw+e+d)
		}
	}
	random := rand.New(rand.NewSource(3))
	for range 15 {
		list = append(list, s.Raw+random.Intn(1<<(1+random.Intn(53))), s.Raw+random.Intn(1+slewEnd(s)))
	}
	return list
}

// clock returns the clock with a state that is valid.
func clock(t *testing.T, s state) *sysclock.Clock {
	t.Helper()
	c := sysclock.Of(s)
	if c == nil {
		t.Fatalf("Of(%v) is nil", s)
	}
	return c
}

func checkState(t *testing.T, call string, c *sysclock.Clock, want state) {
	t.Helper()
	if s := c.State(); s != want {
		t.Errorf("after %s the state is %v; want %v", call, s, want)
	}
}

func checkError(t *testing.T, call string, s state, e, want api.Errno) {
	t.Helper()
	if e != want {
		t.Errorf("%s of %v: error %d; want %d", call, s, e, want)
	}
}

func checkNow(t *testing.T, c *sysclock.Clock, raw, want int, err api.Errno) {
	t.Helper()
	if n, e := c.Now(raw); n != want || e != err {
		t.Errorf("Now(%d) of %v = %d, %d; want %d, %d", raw, c.State(), n, e, want, err)
	}
}

func checkPending(t *testing.T, c *sysclock.Clock, raw, want int) {
	t.Helper()
	if n := c.Pending(raw); n != want {
		t.Errorf("Pending(%d) of %v = %d; want %d", raw, c.State(), n, want)
	}
}

// P10.1, P10.8
func TestNew(t *testing.T) {
	for _, raw := range []int{0, 1, -1, 1000, limit, -limit} {
		for _, time := range []int{0, 1, -1, 5000, limit, -limit} {
			c := sysclock.New(raw, time)
			if c == nil {
				t.Errorf("New(%d, %d) is nil", raw, time)
			}
			checkState(t, "New", c, state{Raw: raw, Time: time})
		}
		for _, wrong := range []int{limit + 1, -limit - 1, low, high} {
			if sysclock.New(raw, wrong) != nil {
				t.Errorf("New(%d, %d) is not nil", raw, wrong)
			}
			if sysclock.New(wrong, raw) != nil {
				t.Errorf("New(%d, %d) is not nil", wrong, raw)
			}
		}
	}
}

// P10.1, P10.8
func TestOf(t *testing.T) {
	for _, s := range states() {
		checkState(t, "Of", clock(t, s), s)
	}
	for _, s := range []state{
		{Raw: limit + 1}, {Raw: -limit - 1}, {Raw: low}, {Raw: high}, {Time: limit + 1}, {Time: -limit - 1}, {Time: low}, {Time: high},
		{PPB: api.MaxPPB + 1}, {PPB: -api.MaxPPB - 1}, {PPB: low}, {PPB: high},
		{Left: limit + 1, Rate: 1}, {Left: -limit - 1, Rate: 1}, {Left: low, Rate: 1}, {Left: high, Rate: 1},
		{Rate: -1}, {Rate: low}, {Rate: api.MaxPPB + 1}, {Rate: high}, {Left: 5, Rate: -1}, {Left: 5, Rate: api.MaxPPB + 1}, {Left: 1}, {Left: -1},
		{Steps: -1}, {Steps: low},
	} {
		if sysclock.Of(s) != nil {
			t.Errorf("Of(%v) is not nil", s)
		}
	}
}

// P10.2, P10.4, P10.5, P10.6, P10.7
func TestExamples(t *testing.T) {
	c := sysclock.New(1000, 5000)
	checkNow(t, c, 1500, 5500, api.OK)
	checkError(t, "Freq", c.State(), c.Freq(2000, 1000), api.OK)
	checkNow(t, c, 1002000, 1006001, api.OK)

	c = sysclock.New(0, 0)
	checkError(t, "Slew", c.State(), c.Slew(0, 10, 1000), api.OK)
	checkNow(t, c, 4500000, 4500004, api.OK)
	checkPending(t, c, 4500000, 6)
	checkNow(t, c, 10000000, 10000010, api.OK)
	checkNow(t, c, 20000000, 20000010, api.OK)
	checkError(t, "Step", c.State(), c.Step(20000000, -100), api.OK)
	checkNow(t, c, 20000000, 19999910, api.OK)
	checkState(t, "Step", c, state{Raw: 20000000, Time: 19999910, Steps: 1})
	checkNow(t, c, 19999999, 0, api.ErrOrder)
	checkError(t, "Freq", c.State(), c.Freq(20000000, 500001), api.ErrRange)

	// 500 ns are shown in a million of raw time.
	c = sysclock.New(0, 0)
	checkError(t, "Slew", c.State(), c.Slew(0, 500, 500000), api.OK)
	checkPending(t, c, 999999, 1)
	checkPending(t, c, 1000000, 0)
	checkNow(t, c, 1000000, 1000500, api.OK)
	checkNow(t, c, 1000001, 1000501, api.OK)
}

// P10.2
func TestNow(t *testing.T) {
	for _, s := range states() {
		c := clock(t, s)
		for _, raw := range raws(s) {
			if err := nowError(s, raw); err != api.OK {
				checkNow(t, c, raw, 0, err)
			} else {
				checkNow(t, c, raw, shown(s, raw), api.OK)
			}
		}
		checkState(t, "Now", c, s)
	}
}

// P10.2
func TestNowRange(t *testing.T) {
	c := clock(t, state{Raw: 10, Time: limit - 100})
	checkNow(t, c, 110, limit, api.OK)
	checkNow(t, c, 111, 0, api.ErrRange)
	checkNow(t, c, limit, 0, api.ErrRange)
	checkNow(t, c, 9, 0, api.ErrOrder)
	// The limit of raw readings counts, whatever the clock shows.
	c = clock(t, state{Raw: limit - 5, Time: 0})
	checkNow(t, c, limit, 5, api.OK)
	checkNow(t, c, limit+1, 0, api.ErrRange)
	// What is slewed back keeps the time within the limit.
	c = clock(t, state{Raw: 0, Time: limit - 999, PPB: -500000, Left: -1000, Rate: 500000})
	checkNow(t, c, 1000, limit, api.OK)
	checkNow(t, c, 1001, limit, api.OK)
	checkNow(t, c, 1002, 0, api.ErrRange)
	// The first nanosecond of a clock that is a little slow is not shown.
	c = clock(t, state{Raw: 0, Time: -limit, PPB: -1})
	checkNow(t, c, 0, -limit, api.OK)
	checkNow(t, c, 1, -limit, api.OK)
}

// Each of the calls that change the state, with arguments that are valid.
func changes() []struct {
	name string
	call func(c *sysclock.Clock, raw int) api.Errno
	then func(s state) state
} {
	return []struct {
		name string
		call func(c *sysclock.Clock, raw int) api.Errno
		then func(s state) state
	}{
		{"Freq(0)", func(c *sysclock.Clock, raw int) api.Errno { return c.Freq(raw, 0) }, func(s state) state { s.PPB = 0; return s }},
		{"Freq(-7)", func(c *sysclock.Clock, raw int) api.Errno { return c.Freq(raw, -7) }, func(s state) state { s.PPB = -7; return s }},
		{"Freq(MaxPPB)", func(c *sysclock.Clock, raw int) api.Errno { return c.Freq(raw, api.MaxPPB) }, func(s state) state { s.PPB = api.MaxPPB; return s }},
		{"Freq(-MaxPPB)", func(c *sysclock.Clock, raw int) api.Errno { return c.Freq(raw, -api.MaxPPB) }, func(s state) state { s.PPB = -api.MaxPPB; return s }},
		{"Slew(9, 1)", func(c *sysclock.Clock, raw int) api.Errno { return c.Slew(raw, 9, 1) }, func(s state) state { s.Left, s.Rate = 9, 1; return s }},
		{"Slew(-9, 77)", func(c *sysclock.Clock, raw int) api.Errno { return c.Slew(raw, -9, 77) }, func(s state) state { s.Left, s.Rate = -9, 77; return s }},
		{"Slew(0, 5)", func(c *sysclock.Clock, raw int) api.Errno { return c.Slew(raw, 0, 5) }, func(s state) state { s.Left, s.Rate = 0, 0; return s }},
		{"Slew(limit, MaxPPB)", func(c *sysclock.Clock, raw int) api.Errno { return c.Slew(raw, limit, api.MaxPPB) }, func(s state) state { s.Left, s.Rate = limit, api.MaxPPB; return s }},
		{"Slew(-limit, MaxPPB)", func(c *sysclock.Clock, raw int) api.Errno { return c.Slew(raw, -limit, api.MaxPPB) }, func(s state) state { s.Left, s.Rate = -limit, api.MaxPPB; return s }},
		{"Step(0)", func(c *sysclock.Clock, raw int) api.Errno { return c.Step(raw, 0) }, stepped(0)},
		{"Step(5)", func(c *sysclock.Clock, raw int) api.Errno { return c.Step(raw, 5) }, stepped(5)},
		{"Step(-5)", func(c *sysclock.Clock, raw int) api.Errno { return c.Step(raw, -5) }, stepped(-5)},
		{"Step(limit)", func(c *sysclock.Clock, raw int) api.Errno { return c.Step(raw, limit) }, stepped(limit)},
		{"Step(-limit)", func(c *sysclock.Clock, raw int) api.Errno { return c.Step(raw, -limit) }, stepped(-limit)},
	}
}

func stepped(delta int) func(s state) state {
	return func(s state) state {
		return state{Raw: s.Raw, Time: s.Time + delta, PPB: s.PPB, Steps: s.Steps + 1}
	}
}

// P10.3, P10.4, P10.5, P10.6, P10.8
func TestChanges(t *testing.T) {
	for _, s := range states() {
		for _, raw := range raws(s) {
			for _, change := range changes() {
				c := clock(t, s)
				e := change.call(c, raw)
				if err := nowError(s, raw); err != api.OK {
					checkError(t, change.name, s, e, err)
					checkState(t, change.name, c, s)
					continue
				}
				want := change.then(moved(s, raw))
				switch {
				case want.Time < -limit || want.Time > limit:
					checkError(t, change.name, s, e, api.ErrRange)
					checkState(t, change.name, c, s)
				case want.Steps < 0: // one more than the greatest int
					checkError(t, change.name, s, e, api.ErrOver)
					checkState(t, change.name, c, s)
				default:
					checkError(t, change.name, s, e, api.OK)
					checkState(t, change.name, c, want)
				}
			}
		}
	}
}

// P10.3, P10.4, P10.5, P10.6
func TestWrongArguments(t *testing.T) {
	for _, s := range []state{{Raw: 100, Time: 100}, {Raw: 100, Time: limit, PPB: 5, Left: -5, Rate: 5, Steps: high}} {
		c := clock(t, s)
		// The arguments count before the raw reading, which is wrong at times, too.
		for _, raw := range []int{100, 101, 99, low, limit, limit + 1, high} {
			for _, ppb := range []int{api.MaxPPB + 1, -api.MaxPPB - 1, low, high} {
				checkError(t, "Freq", s, c.Freq(raw, ppb), api.ErrRange)
			}
			for _, delta := range []int{limit + 1, -limit - 1, low, high} {
				checkError(t, "Slew", s, c.Slew(raw, delta, 1), api.ErrRange)
				checkError(t, "Slew", s, c.Slew(raw, delta, 0), api.ErrRange)
				checkError(t, "Step", s, c.Step(raw, delta), api.ErrRange)
			}
			for _, rate := range []int{0, -1, api.MaxPPB + 1, low, high} {
				checkError(t, "Slew", s, c.Slew(raw, 1, rate), api.ErrRange)
				checkError(t, "Slew", s, c.Slew(raw, 0, rate), api.ErrRange)
			}
		}
		checkState(t, "wrong arguments", c, s)
	}
}

// P10.3
func TestOrderOfErrors(t *testing.T) {
	s := state{Raw: 100, Time: limit - 10, Steps: high}
	c := clock(t, s)
	checkError(t, "Freq(99, 0)", s, c.Freq(99, 0), api.ErrOrder)
	checkError(t, "Slew(99, 0, 1)", s, c.Slew(99, 0, 1), api.ErrOrder)
	checkError(t, "Step(99, limit)", s, c.Step(99, limit), api.ErrOrder)
	checkError(t, "Freq(111, 0)", s, c.Freq(111, 0), api.ErrRange)
	checkError(t, "Slew(111, 0, 1)", s, c.Slew(111, 0, 1), api.ErrRange)
	// The step would bring the time back, but it is not shown before it.
	checkError(t, "Step(111, -500)", s, c.Step(111, -500), api.ErrRange)
	checkState(t, "errors", c, s)
}

// P10.6
func TestStepLimits(t *testing.T) {
	s := state{Raw: 100, Time: limit - 10, Steps: high - 1}
	c := clock(t, s)
	checkError(t, "Step(100, 11)", s, c.Step(100, 11), api.ErrRange)
	checkError(t, "Step(105, 6)", s, c.Step(105, 6), api.ErrRange)
	checkState(t, "errors", c, s)
	checkError(t, "Step(105, 5)", s, c.Step(105, 5), api.OK)
	s = state{Raw: 105, Time: limit, Steps: high}
	checkState(t, "Step", c, s)
	// The sum counts before the steps.
	checkError(t, "Step(105, 1)", s, c.Step(105, 1), api.ErrRange)
	checkError(t, "Step(105, 0)", s, c.Step(105, 0), api.ErrOver)
	checkError(t, "Step(105, -1)", s, c.Step(105, -1), api.ErrOver)
	checkState(t, "errors", c, s)
	checkError(t, "Freq(105, 1)", s, c.Freq(105, 1), api.OK)
	checkError(t, "Slew(105, 1, 2)", s, c.Slew(105, 1, 2), api.OK)
	checkState(t, "Freq and Slew", c, state{Raw: 105, Time: limit, PPB: 1, Left: 1, Rate: 2, Steps: high})
	back := clock(t, state{Time: -limit + 5})
	checkError(t, "Step(0, -6)", back.State(), back.Step(0, -6), api.ErrRange)
	checkError(t, "Step(0, -5)", back.State(), back.Step(0, -5), api.OK)
	checkState(t, "Step", back, state{Time: -limit, Steps: 1})
}

// P10.3, P10.5
func TestSlewIsGivenUp(t *testing.T) {
	c := sysclock.New(0, 0)
	checkError(t, "Slew", c.State(), c.Slew(0, 1000, 1000), api.OK)
	checkError(t, "Slew", c.State(), c.Slew(500000000, -3, 20), api.OK)
	checkState(t, "Slew", c, state{Raw: 500000000, Time: 500000500, Left: -3, Rate: 20})
	checkError(t, "Slew", c.State(), c.Slew(500000001, 0, 500000), api.OK)
	checkState(t, "Slew", c, state{Raw: 500000001, Time: 500000500})
}

// P10.7
func TestPending(t *testing.T) {
	for _, s := range states() {
		c := clock(t, s)
		for _, raw := range raws(s) {
			if nowError(s, raw) != api.OK {
				checkPending(t, c, raw, 0)
			} else {
				checkPending(t, c, raw, moved(s, raw).Left)
			}
		}
		checkState(t, "Pending", c, s)
	}
}

// P10.2, P10.3, P10.7, P10.8
func TestNil(t *testing.T) {
	var c *sysclock.Clock
	for _, n := range []int{0, 1, -1, limit + 1, low, high} {
		checkNow(t, c, n, 0, api.ErrNil)
		checkError(t, "Freq", state{}, c.Freq(n, n), api.ErrNil)
		checkError(t, "Slew", state{}, c.Slew(n, n, n), api.ErrNil)
		checkError(t, "Step", state{}, c.Step(n, n), api.ErrNil)
		checkPending(t, c, n, 0)
	}
	checkState(t, "nothing", c, state{})
}

// P10.8
func TestClocksAreApart(t *testing.T) {
	s := state{Raw: 5, Time: 6, PPB: 7, Left: 8, Rate: 9, Steps: 10}
	a, b := clock(t, s), clock(t, s)
	checkError(t, "Step", s, a.Step(5, 1), api.OK)
	checkState(t, "a step of another clock", b, s)
	shown := b.State()
	shown.Time = 99
	checkState(t, "a change of what State returned", b, s)
}

// now returns a time that a clock must show.
func now(t *testing.T, c *sysclock.Clock, raw int) int {
	t.Helper()
	n, e := c.Now(raw)
	if e != api.OK {
		t.Fatalf("Now(%d) of %v: error %d", raw, c.State(), e)
	}
	return n
}

// extreme returns a number from -most to most, which is often one of the two.
func extreme(random *rand.Rand, most int) int {
	switch random.Intn(4) {
	case 0:
		return most
	case 1:
		return -most
	}
	return random.Intn(2*most+1) - most
}

// P10.9, P10.10
func TestNeverBackwards(t *testing.T) {
	random := rand.New(rand.NewSource(4))
	for range 300 {
		size := 1 << (1 + random.Intn(40))
		c := sysclock.New(0, random.Intn(1000)-500)
		raw, before := 0, now(t, c, 0)
		for range 60 {
			for range 4 {
				raw += random.Intn(1 + random.Intn(size))
				if n := now(t, c, raw); n < before {
					t.Fatalf("Now(%d) of %v = %d; it was %d before", raw, c.State(), n, before)
				} else {
					before = n
				}
			}
			if random.Intn(2) == 0 {
				checkError(t, "Freq", c.State(), c.Freq(raw, extreme(random, api.MaxPPB)), api.OK)
			} else {
				rate := max(1, extreme(random, api.MaxPPB))
				checkError(t, "Slew", c.State(), c.Slew(raw, extreme(random, size), rate), api.OK)
			}
			checkNow(t, c, raw, before, api.OK)
		}
	}
}

// P10.9
func TestNeverBackwardsByNanoseconds(t *testing.T) {
	for _, s := range states() {
		c := clock(t, s)
		for _, from := range []int{s.Raw, s.Raw + slewEnd(s) - 1000} {
			before := low
			for raw := max(s.Raw, from); raw < from+2000 && nowError(s, raw) == api.OK; raw++ {
				n := now(t, c, raw)
				if n < before {
					t.Fatalf("Now(%d) of %v = %d; it was %d before", raw, s, n, before)
				}
				before = n
			}
		}
	}
}

// P10.10
func TestContinuity(t *testing.T) {
	for _, s := range states() {
		for _, raw := range raws(s) {
			if nowError(s, raw) != api.OK {
				continue
			}
			for _, delta := range []int{0, 1, -1, 1000, -1000} {
				c := clock(t, s)
				time := now(t, c, raw)
				checkError(t, "Freq", s, c.Freq(raw, delta), api.OK)
				checkNow(t, c, raw, time, api.OK)
				checkError(t, "Slew", s, c.Slew(raw, delta, 999), api.OK)
				checkNow(t, c, raw, time, api.OK)
				if c.Step(raw, delta) == api.OK {
					checkNow(t, c, raw, time+delta, api.OK)
				}
			}
		}
	}
}

// P10.11
func TestSlewMovesByAll(t *testing.T) {
	random := rand.New(rand.NewSource(5))
	for range 3000 {
		s := state{Raw: random.Intn(1000), Time: random.Intn(1000), PPB: extreme(random, api.MaxPPB)}
		delta, rate := extreme(random, 1<<(1+random.Intn(30))), 1+random.Intn(api.MaxPPB)
		plain, slewed := clock(t, s), clock(t, s)
		checkError(t, "Slew", s, slewed.Slew(s.Raw, delta, rate), api.OK)
		end := s.Raw + slewEnd(slewed.State())
		for _, raw := range []int{end, end + 1, end + random.Intn(100), end + random.Intn(billion), end + random.Intn(1<<50)} {
			if nowError(s, raw) != api.OK || nowError(slewed.State(), raw) != api.OK {
				continue
			}
			checkPending(t, slewed, raw, 0)
			differs := now(t, slewed, raw) - now(t, plain, raw)
			if differs < delta-2 || differs > delta+1 {
				t.Fatalf("slewed by %d at %d, a clock of %v differs at %d by %d from one that was not", delta, rate, s, raw, differs)
			}
		}
	}
}
