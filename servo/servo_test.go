package servo_test

import (
	"math"
	"math/big"
	"math/rand"
	"testing"

	"timesync/api"
	"timesync/servo"
	"timesync/sysclock"
)

const (
	low  = math.MinInt
	high = math.MaxInt

	billion = 1000000000
	gain    = 1 << 16
	maxGain = 1 << 20
)

type conf = api.ServoConf

// model is the reference for a servo.
type model struct {
	conf           conf
	integral, freq int
	samples        int
}

// quotient returns a * b / c rounded down, clamped to the range from -most to most.
func quotient(a, b, c, most int) int {
	p := new(big.Int).Mul(big.NewInt(int64(a)), big.NewInt(int64(b)))
	// With a positive divisor, Div rounds down.
	p.Div(p, big.NewInt(int64(c)))
	switch {
	case p.Cmp(big.NewInt(int64(most))) > 0:
		return most
	case p.Cmp(big.NewInt(int64(-most))) < 0:
		return -most
	}
	return int(p.Int64())
}

func (m *model) sample(offset, span int) (api.Action, api.Errno) {
	if offset < -api.MaxSim || offset > api.MaxSim || span < 1 || span > api.MaxSim {
		return api.Action{}, api.ErrRange
	}
	m.samples++
	threshold := m.conf.StepLater
	if m.samples == 1 {
		threshold = m.conf.StepFirst
	}
	if threshold > 0 && max(offset, -offset) > threshold {
		return api.Action{Kind: api.ActStep, Value: offset}, api.OK
	}
	e := quotient(offset, billion, span, billion)
	limit := m.conf.Limit
	m.integral = min(limit, max(-limit, m.integral+quotient(m.conf.Ki, e, gain, high)))
	m.freq = min(limit, max(-limit, m.integral+quotient(m.conf.Kp, e, gain, high)))
	return api.Action{Kind: api.ActFreq, Value: m.freq}, api.OK
}

func (m *model) reset() {
	m.integral, m.samples = 0, 0
}

// confs holds valid configurations.
func confs() []conf {
	list := []conf{
		{Limit: 1}, {Kp: gain, Ki: gain / 2, Limit: 1000}, {Kp: gain, Limit: 500000}, {Ki: gain, Limit: api.MaxPPB}, {Kp: gain / 2, Limit: api.MaxPPB},
		{Limit: 1, StepFirst: 1000}, {Limit: 1, StepLater: 1000}, {Kp: 3, Ki: 5, Limit: 777, StepFirst: 10, StepLater: 500000},
		{Kp: maxGain, Ki: maxGain, Limit: api.MaxPPB, StepFirst: api.MaxSim, StepLater: api.MaxSim}, {Kp: maxGain, Ki: maxGain, Limit: 1, StepFirst: 1, StepLater: 1},
		{Kp: 1, Ki: 1, Limit: api.MaxPPB}, {Kp: gain * 7 / 10, Ki: gain * 3 / 10, Limit: 100000, StepFirst: 20000},
	}
	random := rand.New(rand.NewSource(12))
	for range 60 {
		list = append(list, conf{
			Kp: random.Intn(1 << (1 + random.Intn(20))), Ki: random.Intn(1 << (1 + random.Intn(20))), Limit: 1 + random.Intn(api.MaxPPB),
			StepFirst: random.Intn(1 << random.Intn(40)), StepLater: random.Intn(1 << random.Intn(50)),
		})
	}
	return list
}

func wrong() []conf {
	return []conf{
		{}, {Kp: gain, Ki: gain},
		{Kp: -1, Limit: 5}, {Kp: maxGain + 1, Limit: 5}, {Kp: low, Limit: 5}, {Kp: high, Limit: 5},
		{Ki: -1, Limit: 5}, {Ki: maxGain + 1, Limit: 5}, {Ki: low, Limit: 5}, {Ki: high, Limit: 5},
		{Limit: -1}, {Limit: api.MaxPPB + 1}, {Limit: low}, {Limit: high},
		{Limit: 5, StepFirst: -1}, {Limit: 5, StepFirst: api.MaxSim + 1}, {Limit: 5, StepFirst: low}, {Limit: 5, StepFirst: high},
		{Limit: 5, StepLater: -1}, {Limit: 5, StepLater: api.MaxSim + 1}, {Limit: 5, StepLater: low}, {Limit: 5, StepLater: high},
	}
}

// drawSample returns an offset and a span that are valid and often extreme.
func drawSample(random *rand.Rand) (offset, span int) {
	size := 1 << (1 + random.Intn(50))
	offset, span = random.Intn(2*size+1)-size, 1+random.Intn(1<<(1+random.Intn(50)))
	switch random.Intn(8) {
	case 0:
		offset = api.MaxSim * (1 - 2*random.Intn(2))
	case 1:
		span = 1
	case 2:
		span = billion
	case 3:
		offset = 0
	case 4: // on both sides of an error of a billion
		span = max(1, min(api.MaxSim, max(offset, -offset)+random.Intn(3)-1))
	}
	return offset, span
}

func build(t *testing.T, c conf) *servo.Servo {
	t.Helper()
	s := servo.New(c)
	if s == nil {
		t.Fatalf("New(%+v) is nil", c)
	}
	return s
}

func checkSample(t *testing.T, s *servo.Servo, offset, span int, want api.Action, err api.Errno) {
	t.Helper()
	if a, e := s.Sample(offset, span); a != want || e != err {
		t.Errorf("Sample(%d, %d) = %v, %d; want %v, %d", offset, span, a, e, want, err)
	}
}

func checkState(t *testing.T, s *servo.Servo, freq, samples int) {
	t.Helper()
	if f, n := s.Freq(), s.Samples(); f != freq || n != samples {
		t.Errorf("Freq and Samples are %d and %d; want %d and %d", f, n, freq, samples)
	}
}

func toFreq(value int) api.Action {
	return api.Action{Kind: api.ActFreq, Value: value}
}

func toStep(value int) api.Action {
	return api.Action{Kind: api.ActStep, Value: value}
}

// P12.1
func TestCheckAndNew(t *testing.T) {
	for _, c := range confs() {
		if e := servo.Check(c); e != api.OK {
			t.Errorf("Check(%+v) = %d; want OK", c, e)
		}
		s := build(t, c)
		checkState(t, s, 0, 0)
	}
	for _, c := range wrong() {
		if e := servo.Check(c); e != api.ErrRange {
			t.Errorf("Check(%+v) = %d; want ErrRange", c, e)
		}
		if servo.New(c) != nil {
			t.Errorf("New(%+v) is not nil", c)
		}
	}
}

// P12.2
func TestSampleExamples(t *testing.T) {
	s := build(t, conf{Kp: gain, Ki: gain / 2, Limit: 1000})
	checkSample(t, s, 100, billion, toFreq(150), api.OK)
	checkSample(t, s, 100, billion, toFreq(200), api.OK)

	s = build(t, conf{Limit: 77, StepFirst: 1000})
	checkSample(t, s, -1001, 1, toStep(-1001), api.OK)
	checkSample(t, s, -1001, 1, toFreq(0), api.OK)

	// The frequency error of 1 ns in 3 ns is 333333333, which is clamped to the limit.
	s = build(t, conf{Kp: gain, Limit: 500000})
	checkSample(t, s, 1, 3, toFreq(500000), api.OK)
	checkSample(t, s, -1, 3, toFreq(-500000), api.OK)
}

// P12.2
func TestRoundingAndClamping(t *testing.T) {
	for _, c := range []struct {
		conf         conf
		offset, span int
		freq         int
	}{
		// The error is rounded down: -1 ns in 3 s is -1 ppb, and 1 ns nothing.
		{conf{Kp: gain, Limit: 1000}, -1, 3 * billion, -1}, {conf{Kp: gain, Limit: 1000}, 1, 3 * billion, 0}, {conf{Kp: gain, Limit: 1000}, 2, 3 * billion / 2, 1}, {conf{Kp: gain, Limit: 1000}, -2, 3 * billion / 2, -2},
		// So is what the gains make of it.
		{conf{Kp: gain / 2, Limit: 1000}, 3, billion, 1}, {conf{Kp: gain / 2, Limit: 1000}, -3, billion, -2}, {conf{Kp: 1, Limit: 1000}, -1, billion, -1}, {conf{Ki: 1, Limit: 1000}, -1, billion, -1}, {conf{Ki: 1, Limit: 1000}, 1, billion, 0},
		// Each of both parts is rounded on its own.
		{conf{Kp: gain / 2, Ki: gain / 2, Limit: 1000}, 3, billion, 2}, {conf{Kp: gain / 2, Ki: gain / 2, Limit: 1000}, -3, billion, -4},
		// The error is clamped to a billion, of which 16/65536 are 244140.6.
		{conf{Kp: 16, Limit: api.MaxPPB}, api.MaxSim, 1, 244140}, {conf{Kp: 16, Limit: api.MaxPPB}, -api.MaxSim, 1, -244141}, {conf{Kp: 16, Limit: api.MaxPPB}, 5, 5, 244140}, {conf{Kp: 16, Limit: api.MaxPPB}, 5, 4, 244140}, {conf{Kp: 16, Limit: api.MaxPPB}, 5, 10, 122070}, {conf{Ki: 16, Limit: api.MaxPPB}, api.MaxSim, 1, 244140},
		{conf{Kp: 16, Limit: api.MaxPPB}, -5, 4, -244141}, {conf{Kp: 16, Limit: api.MaxPPB}, -5, 10, -122071}, {conf{Kp: 16, Limit: api.MaxPPB}, api.MaxSim, api.MaxSim, 244140}, {conf{Kp: 16, Limit: api.MaxPPB}, api.MaxSim - 1, api.MaxSim, 244140},
		// The integral is clamped before the other part is added to it.
		{conf{Kp: gain, Ki: gain, Limit: 1000}, 700, billion, 1000}, {conf{Kp: gain, Ki: gain, Limit: 1000}, -5000, billion, -1000}, {conf{Kp: maxGain, Ki: maxGain, Limit: 1}, 1, 1, 1},
	} {
		s := build(t, c.conf)
		checkSample(t, s, c.offset, c.span, toFreq(c.freq), api.OK)
		checkState(t, s, c.freq, 1)
	}
}

// P12.2
func TestIntegralIsClamped(t *testing.T) {
	s := build(t, conf{Ki: gain, Limit: 1000})
	checkSample(t, s, 100000, billion, toFreq(1000), api.OK)
	checkSample(t, s, -1, billion, toFreq(999), api.OK)
	checkSample(t, s, -100000, billion, toFreq(-1000), api.OK)
	checkSample(t, s, 5, billion, toFreq(-995), api.OK)

	// The frequency is clamped, but what is beyond the limit is not the integral's.
	s = build(t, conf{Kp: 2 * gain, Ki: gain, Limit: 1000})
	checkSample(t, s, 600, billion, toFreq(1000), api.OK)
	checkSample(t, s, 0, billion, toFreq(600), api.OK)
	checkSample(t, s, -1, billion, toFreq(597), api.OK)
}

// P12.2
func TestSteps(t *testing.T) {
	s := build(t, conf{Ki: gain, Limit: 100000, StepFirst: 1000, StepLater: 50})
	checkSample(t, s, 1000, billion, toFreq(1000), api.OK)
	checkSample(t, s, 51, billion, toStep(51), api.OK)
	checkState(t, s, 1000, 2)
	checkSample(t, s, -51, billion, toStep(-51), api.OK)
	checkSample(t, s, api.MaxSim, 1, toStep(api.MaxSim), api.OK)
	checkSample(t, s, -api.MaxSim, api.MaxSim, toStep(-api.MaxSim), api.OK)
	checkState(t, s, 1000, 5)
	// The integral stayed, too, and the threshold itself is not beyond it.
	checkSample(t, s, 50, billion, toFreq(1050), api.OK)
	checkSample(t, s, -50, billion, toFreq(1000), api.OK)
	checkState(t, s, 1000, 7)

	s = build(t, conf{Ki: gain, Limit: 100000, StepLater: 1})
	checkSample(t, s, api.MaxSim, api.MaxSim, toFreq(100000), api.OK)
	checkSample(t, s, 2, billion, toStep(2), api.OK)

	// A step is the first sample, too.
	s = build(t, conf{Ki: gain, Limit: 100000, StepFirst: 1, StepLater: 100})
	checkSample(t, s, -2, billion, toStep(-2), api.OK)
	checkSample(t, s, -2, billion, toFreq(-2), api.OK)

	s = build(t, conf{Limit: 1, StepFirst: api.MaxSim, StepLater: api.MaxSim})
	checkSample(t, s, api.MaxSim, 1, toFreq(0), api.OK)
	checkSample(t, s, -api.MaxSim, 1, toFreq(0), api.OK)
}

func wrongSamples() []struct{ offset, span int } {
	return []struct{ offset, span int }{
		{api.MaxSim + 1, 1}, {-api.MaxSim - 1, 1}, {low, 1}, {high, 1}, {low, billion},
		{0, 0}, {0, -1}, {0, api.MaxSim + 1}, {0, low}, {0, high}, {5000, 0}, {-5000, -5},
		{high, 0}, {low, low}, {high, high}, {api.MaxSim + 1, api.MaxSim + 1},
	}
}

// P12.2
func TestWrongSamples(t *testing.T) {
	s := build(t, conf{Ki: gain, Limit: 100000, StepFirst: 100, StepLater: 1000})
	for _, c := range wrongSamples() {
		checkSample(t, s, c.offset, c.span, api.Action{}, api.ErrRange)
	}
	checkState(t, s, 0, 0)
	// None of them was the first sample.
	checkSample(t, s, 500, billion, toStep(500), api.OK)
	checkSample(t, s, 500, billion, toFreq(500), api.OK)
	for _, c := range wrongSamples() {
		checkSample(t, s, c.offset, c.span, api.Action{}, api.ErrRange)
	}
	checkState(t, s, 500, 2)
	checkSample(t, s, 1, billion, toFreq(501), api.OK)
}

// P12.2, P12.3, P12.4
func TestSequences(t *testing.T) {
	random := rand.New(rand.NewSource(13))
	for _, c := range confs() {
		s, m := build(t, c), &model{conf: c}
		for range 300 {
			switch random.Intn(20) {
			case 0:
				s.Reset()
				m.reset()
			case 1:
				bad := wrongSamples()[random.Intn(len(wrongSamples()))]
				checkSample(t, s, bad.offset, bad.span, api.Action{}, api.ErrRange)
			default:
				offset, span := drawSample(random)
				want, err := m.sample(offset, span)
				checkSample(t, s, offset, span, want, err)
				if f := s.Freq(); f > c.Limit || f < -c.Limit {
					t.Errorf("the frequency of %+v is %d", c, f)
				}
			}
			checkState(t, s, m.freq, m.samples)
		}
	}
}

// P12.3
func TestReset(t *testing.T) {
	s := build(t, conf{Kp: gain, Ki: gain, Limit: 1000, StepFirst: 300, StepLater: 100})
	s.Reset()
	checkState(t, s, 0, 0)
	checkSample(t, s, 200, billion, toFreq(400), api.OK)
	checkSample(t, s, 200, billion, toStep(200), api.OK)
	checkState(t, s, 400, 2)
	s.Reset()
	checkState(t, s, 400, 0)
	// The threshold is that of a first sample again; a step leaves the frequency.
	checkSample(t, s, 301, billion, toStep(301), api.OK)
	checkState(t, s, 400, 1)
	s.Reset()
	checkSample(t, s, 200, billion, toFreq(400), api.OK)
	checkState(t, s, 400, 1)
	s.Reset()
	s.Reset()
	checkSample(t, s, 0, billion, toFreq(0), api.OK)
	checkState(t, s, 0, 1)
}

// P12.3
func TestNil(t *testing.T) {
	var s *servo.Servo
	for _, n := range []int{0, 1, -1, billion, api.MaxSim + 1, low, high} {
		checkSample(t, s, n, n, api.Action{}, api.ErrNil)
	}
	checkState(t, s, 0, 0)
	s.Reset()
	checkState(t, s, 0, 0)
}

// P12.1, P12.2
func TestServosAreApart(t *testing.T) {
	c := conf{Ki: gain, Limit: 1000}
	a, b := build(t, c), build(t, c)
	checkSample(t, a, 7, billion, toFreq(7), api.OK)
	checkState(t, b, 0, 0)
	checkSample(t, b, 1, billion, toFreq(1), api.OK)
	checkState(t, a, 7, 1)
}

// twins returns two servos in the same state.
func twins(t *testing.T, c conf, random *rand.Rand) (a, b *servo.Servo) {
	t.Helper()
	a, b = build(t, c), build(t, c)
	for range random.Intn(20) {
		offset, span := drawSample(random)
		action, e := a.Sample(offset, span)
		checkSample(t, b, offset, span, action, e)
	}
	return a, b
}

// P12.5
func TestGreaterOffsets(t *testing.T) {
	random := rand.New(rand.NewSource(14))
	for _, c := range confs() {
		for range 60 {
			a, b := twins(t, c, random)
			offset, span := drawSample(random)
			lesser := max(-api.MaxSim, offset-random.Intn(1<<random.Intn(50)))
			more, e1 := a.Sample(offset, span)
			less, e2 := b.Sample(lesser, span)
			if e1 != api.OK || e2 != api.OK {
				t.Errorf("Sample(%d and %d, %d): errors %d and %d", offset, lesser, span, e1, e2)
			}
			if more.Kind == api.ActFreq && less.Kind == api.ActFreq && more.Value < less.Value {
				t.Errorf("after an offset of %d the frequency of %+v is %d, and after one of %d it is %d", offset, c, more.Value, lesser, less.Value)
			}
		}
	}
}

// P12.6
func TestNoOffset(t *testing.T) {
	random := rand.New(rand.NewSource(15))
	for _, c := range confs() {
		integrates := c
		integrates.Kp = 0
		// Its frequency is the integral.
		s, integral := build(t, c), build(t, integrates)
		for range 100 {
			offset, span := drawSample(random)
			a, _ := s.Sample(offset, span)
			if b, _ := integral.Sample(offset, span); a.Kind != b.Kind {
				t.Errorf("Sample(%d, %d) with and without Kp: %v and %v", offset, span, a, b)
			}
			want := integral.Freq()
			for range 3 {
				checkSample(t, s, 0, span, toFreq(want), api.OK)
				checkSample(t, integral, 0, 1+random.Intn(api.MaxSim), toFreq(want), api.OK)
			}
		}
	}
}

// P12.7
func TestServoSettles(t *testing.T) {
	for off := -500000; off <= 500000; off += 101 {
		checkSettles(t, off)
	}
	for _, off := range []int{500000, -1, 0, 1, 2, -2, 1<<18 - 1, 1 << 18, -1 << 18, -1<<18 - 1, 499999, -499999} {
		checkSettles(t, off)
	}
}

// checkSettles measures a clock that is off by so much each second: first after a
// second, and last just before the 20 seconds are over.
func checkSettles(t *testing.T, off int) {
	t.Helper()
	s := build(t, conf{Kp: gain / 2, Limit: api.MaxPPB})
	c := sysclock.New(0, off)
	for second := 1; second < 20; second++ {
		now := second * billion
		a, e := s.Sample(now-shown(t, c, now), billion)
		if a.Kind != api.ActFreq || e != api.OK {
			t.Fatalf("Sample: %v, %d", a, e)
		}
		if e := c.Freq(now, a.Value); e != api.OK {
			t.Fatalf("Freq(%d, %d): error %d", now, a.Value, e)
		}
	}
	if n := shown(t, c, 20*billion) - 20*billion; n < -1 || n > 1 {
		t.Errorf("a clock that was off by %d is off by %d after 20 s", off, n)
	}
}

func shown(t *testing.T, c *sysclock.Clock, raw int) int {
	t.Helper()
	n, e := c.Now(raw)
	if e != api.OK {
		t.Fatalf("Now(%d): error %d", raw, e)
	}
	return n
}
