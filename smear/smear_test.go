package smear_test

import (
	"math"
	"math/big"
	"math/rand"
	"slices"
	"testing"
	"time"

	"timesync/api"
	"timesync/smear"
)

const (
	low  = math.MinInt
	high = math.MaxInt

	second    = 1000000000
	unixEpoch = 2208988800

	// The first and the last second that begin a month for which a table may have
	// an entry.
	firstMonth = -7999776000
	lastMonth  = 7999603200

	// july1972 is the change of example().
	july1972 = 2287785611 * second
)

// month returns the first second of a month, counted on from January of a year.
func month(year, number int) int {
	return int(time.Date(year, time.Month(number), 1, 0, 0, 0, 0, time.UTC).Unix()) + unixEpoch
}

func example() api.LeapTable {
	return api.LeapTable{Base: 10, Expires: 2300000000, Entries: []api.LeapEntry{{At: 2287785600, Off: 11}}}
}

func deleting() api.LeapTable {
	return api.LeapTable{Base: 10, Expires: 2300000000, Entries: []api.LeapEntry{{At: 2287785600, Off: 9}}}
}

// monthly has as many entries as a table may have, one at each month, in an order
// of insertions and deletions that is the same in each run.
func monthly(base int, seed int64) api.LeapTable {
	t := api.LeapTable{Base: base}
	random := rand.New(rand.NewSource(seed))
	off := base
	for i := range api.MaxLeaps {
		off += 2*random.Intn(2) - 1
		t.Entries = append(t.Entries, api.LeapEntry{At: month(1899, 6+i), Off: off})
	}
	return t
}

// tables holds valid tables.
func tables() []api.LeapTable {
	return []api.LeapTable{
		{}, {Base: 1000}, {Base: -1000}, example(), deleting(), monthly(0, 1), monthly(-500, 2),
		{Entries: []api.LeapEntry{{At: 0, Off: -1}, {At: month(1900, 2), Off: 0}, {At: month(1900, 3), Off: 1}, {At: month(1900, 4), Off: 0}}},
		{Base: 999, Entries: []api.LeapEntry{{At: firstMonth, Off: 1000}, {At: lastMonth, Off: 999}}},
		{Base: -999, Entries: []api.LeapEntry{{At: firstMonth, Off: -1000}, {At: lastMonth, Off: -999}}},
		{Base: -1000, Entries: []api.LeapEntry{{At: firstMonth, Off: -999}, {At: lastMonth, Off: -1000}}},
		{Base: 1000, Entries: []api.LeapEntry{{At: firstMonth, Off: 999}, {At: lastMonth, Off: 1000}}},
	}
}

func steps() api.Smear {
	return api.Smear{Kind: api.SmearStep}
}

// smears holds valid policies with windows.
func smears() []api.Smear {
	var list []api.Smear
	for _, kind := range []int{api.SmearCentered, api.SmearBefore, api.SmearAfter} {
		for _, window := range []int{2, 6, 1000, 86398, 86400, 172800} {
			list = append(list, api.Smear{Kind: kind, Window: window})
		}
	}
	return list
}

func policies() []api.Smear {
	return append(smears(), steps())
}

// offBefore returns the offset before an entry.
func offBefore(t api.LeapTable, i int) int {
	if i == 0 {
		return t.Base
	}
	return t.Entries[i-1].Off
}

// window returns the first instant of an entry's window and the first one after it,
// both the change for SmearStep.
func window(t api.LeapTable, s api.Smear, i int) (int, int) {
	change := (t.Entries[i].At + t.Entries[i].Off) * second
	width := s.Window * second
	first := map[int]int{api.SmearStep: change, api.SmearCentered: change - width/2, api.SmearBefore: change - width, api.SmearAfter: change}[s.Kind]
	return first, first + width
}

// entryOf returns the entry whose window has an instant, or -1.
func entryOf(t api.LeapTable, s api.Smear, tai int) int {
	for i := range t.Entries {
		if first, end := window(t, s, i); first <= tai && tai < end {
			return i
		}
	}
	return -1
}

// readingOf is the reference for the reading of an instant that is not far out of range.
func readingOf(t api.LeapTable, s api.Smear, tai int) int {
	i := entryOf(t, s, tai)
	if i < 0 {
		off := t.Base
		for j, e := range t.Entries {
			if _, end := window(t, s, j); end <= tai {
				off = e.Off
			}
		}
		return tai - off*second
	}
	first, _ := window(t, s, i)
	change := t.Entries[i].Off - offBefore(t, i)
	part := big.NewInt(int64(change))
	part.Mul(part, big.NewInt(int64(tai-first)))
	part.Div(part, big.NewInt(int64(s.Window)))
	return tai - offBefore(t, i)*second - int(part.Int64())
}

func inTime(n int) bool {
	return n >= -api.MaxTime && n <= api.MaxTime
}

// someEntries holds the indices of the entries around which a table is tested.
func someEntries(t api.LeapTable) []int {
	count := len(t.Entries)
	if count <= 4 {
		return []int{0, 1, 2, 3}[:count]
	}
	return []int{0, 1, 2, count / 2, count - 2, count - 1}
}

// instants holds the instants at which readings change under a policy, and some others.
func instants(t api.LeapTable, s api.Smear) []int {
	list := []int{-api.MaxTime, -api.MaxTime + 1, -api.MaxTime + 1000*second, -1, 0, 1, api.MaxTime - 1000*second, api.MaxTime - 1, api.MaxTime}
	random := rand.New(rand.NewSource(1))
	for _, i := range someEntries(t) {
		first, end := window(t, s, i)
		change, _ := window(t, steps(), i)
		for _, at := range []int{first, end, change, first + (end-first)/2, first + second, end - second, first + random.Intn(end-first+1), first - second, end + second} {
			list = append(list, at-2, at-1, at, at+1, at+2)
		}
		list = append(list, first-20*86400*second, end+20*86400*second)
	}
	slices.Sort(list)
	list = slices.Compact(list)
	return slices.DeleteFunc(list, func(at int) bool { return !inTime(at) })
}

type wrongPolicy struct {
	table  api.LeapTable
	policy api.Smear
	want   api.Errno
}

// wrongPolicies holds tables and policies with an error, most of them with later errors too.
func wrongPolicies() []wrongPolicy {
	long := monthly(0, 1)
	long.Entries = append(long.Entries, api.LeapEntry{At: 1, Off: 5000})
	list := []wrongPolicy{
		{long, steps(), api.ErrLong}, {long, api.Smear{Kind: 9, Window: -1}, api.ErrLong}, {api.LeapTable{Base: 1001}, steps(), api.ErrRange}, {api.LeapTable{Base: 1001}, api.Smear{Kind: 9}, api.ErrRange},
		{api.LeapTable{Entries: []api.LeapEntry{{At: 1, Off: 1}}}, api.Smear{Kind: 0, Window: 1}, api.ErrForm}, {api.LeapTable{Entries: []api.LeapEntry{{At: 0, Off: 1}, {At: 0, Off: 2}}}, api.Smear{Kind: api.SmearAfter, Window: 3}, api.ErrOrder},
		{api.LeapTable{Entries: []api.LeapEntry{{At: 0, Off: 2}}}, api.Smear{Kind: 9, Window: 2}, api.ErrRange},
	}
	for _, kind := range []int{0, 5, -1, 9, low, high} {
		for _, window := range []int{0, 2, 1000, 3, -2, high} {
			list = append(list, wrongPolicy{example(), api.Smear{Kind: kind, Window: window}, api.ErrKind})
		}
	}
	for _, kind := range []int{api.SmearCentered, api.SmearBefore, api.SmearAfter} {
		for _, window := range []int{0, 1, 3, 999, 172799, 172801, 172802, -1, -2, -1000, low, high, high - 1} {
			list = append(list, wrongPolicy{example(), api.Smear{Kind: kind, Window: window}, api.ErrRange})
		}
	}
	for _, window := range []int{1, 2, 1000, 172800, -1, -2, low, high} {
		list = append(list, wrongPolicy{example(), api.Smear{Kind: api.SmearStep, Window: window}, api.ErrRange})
	}
	return list
}

// P7.1
func TestCheck(t *testing.T) {
	for _, table := range tables() {
		for _, s := range policies() {
			if err := smear.Check(table, s); err != api.OK {
				t.Errorf("Check(%v, %v) = %d; want OK", table, s, err)
			}
		}
	}
	for _, c := range wrongPolicies() {
		if err := smear.Check(c.table, c.policy); err != c.want {
			t.Errorf("Check(%v, %v) = %d; want %d", c.table, c.policy, err, c.want)
		}
	}
}

// P7.2 to P7.4
func TestWrongPolicies(t *testing.T) {
	for _, c := range wrongPolicies() {
		for _, at := range []int{0, july1972, july1972 - 1, july1972 + 1, api.MaxTime + 1, low, high} {
			if utc, err := smear.Read(c.table, c.policy, at); utc != 0 || err != c.want {
				t.Errorf("Read(%v, %v, %d) = %d, %d; want error %d", c.table, c.policy, at, utc, err, c.want)
			}
			if tai, err := smear.Tai(c.table, c.policy, at); tai != 0 || err != c.want {
				t.Errorf("Tai(%v, %v, %d) = %d, %d; want error %d", c.table, c.policy, at, tai, err, c.want)
			}
			if smear.Active(c.table, c.policy, at) || smear.Rate(c.table, c.policy, at) != 0 {
				t.Errorf("Active and Rate(%v, %v, %d) = %v, %d; want false, 0", c.table, c.policy, at, smear.Active(c.table, c.policy, at), smear.Rate(c.table, c.policy, at))
			}
		}
	}
}

// P7.2
func TestReadExamples(t *testing.T) {
	before, after := api.Smear{Kind: api.SmearBefore, Window: 1000}, api.Smear{Kind: api.SmearAfter, Window: 1000}
	centered, short := api.Smear{Kind: api.SmearCentered, Window: 1000}, api.Smear{Kind: api.SmearAfter, Window: 6}
	for _, c := range []struct {
		table     api.LeapTable
		policy    api.Smear
		tai, want int
	}{
		{example(), steps(), july1972 - 1, 2287785600999999999}, {example(), steps(), july1972, 2287785600000000000}, {example(), steps(), july1972 + 1, 2287785600000000001},
		{example(), after, july1972, 2287785601000000000}, {example(), after, july1972 + 500*second, 2287786100500000000}, {example(), after, july1972 + 1000*second, 2287786600 * second}, {example(), after, july1972 + 1000*second - 1, 2287786600 * second}, {example(), after, july1972 - 1, 2287785600999999999},
		{example(), before, july1972, 2287785600000000000}, {example(), before, july1972 - 1, 2287785600 * second}, {example(), before, july1972 - 1000*second, 2287784601 * second}, {example(), before, july1972 - 500*second, 2287785100500000000},
		{example(), centered, july1972 - 500*second, 2287785101 * second}, {example(), centered, july1972, 2287785600500000000}, {example(), centered, july1972 + 500*second, 2287786100 * second},
		// 1 to 6 ns after the beginning of a window of 6 s; each part of a sixth is rounded down.
		{example(), short, july1972 + 1, 2287785601000000001}, {example(), short, july1972 + 5, 2287785601000000005}, {example(), short, july1972 + 6, 2287785601000000005},
		{deleting(), steps(), july1972 - 2*second - 1, 2287785598999999999}, {deleting(), steps(), july1972 - 2*second, 2287785600 * second},
		{deleting(), after, july1972 - 2*second, 2287785599 * second}, {deleting(), after, july1972 + 498*second, 2287786099500000000}, {deleting(), after, july1972 + 998*second, 2287786600 * second},
		{deleting(), short, july1972 - 2*second + 1, 2287785599000000002}, {deleting(), short, july1972 - 2*second + 6, 2287785599000000007}, {deleting(), short, july1972 - 2*second + 7, 2287785599000000009},
	} {
		if utc, err := smear.Read(c.table, c.policy, c.tai); utc != c.want || err != api.OK {
			t.Errorf("Read(%v, %v, %d) = %d, %d; want %d", c.table, c.policy, c.tai, utc, err, c.want)
		}
	}
}

// P7.2
func TestRead(t *testing.T) {
	for _, table := range tables() {
		for _, s := range policies() {
			for _, tai := range instants(table, s) {
				want, wantErr := readingOf(table, s, tai), api.OK
				if !inTime(want) {
					want, wantErr = 0, api.ErrRange
				}
				if utc, err := smear.Read(table, s, tai); utc != want || err != wantErr {
					t.Errorf("Read(%v, %v, %d) = %d, %d; want %d, %d", table, s, tai, utc, err, want, wantErr)
				}
			}
		}
	}
}

// P7.2
func TestReadRange(t *testing.T) {
	fast, slow := api.LeapTable{Base: 1000}, api.LeapTable{Base: -1000}
	for _, s := range policies() {
		for _, c := range []struct {
			table     api.LeapTable
			tai, want int
			err       api.Errno
		}{
			{api.LeapTable{}, api.MaxTime, api.MaxTime, api.OK}, {api.LeapTable{}, -api.MaxTime, -api.MaxTime, api.OK}, {api.LeapTable{}, api.MaxTime + 1, 0, api.ErrRange}, {api.LeapTable{}, -api.MaxTime - 1, 0, api.ErrRange}, {api.LeapTable{}, high, 0, api.ErrRange}, {api.LeapTable{}, low, 0, api.ErrRange},
			{fast, api.MaxTime, api.MaxTime - 1000*second, api.OK}, {fast, api.MaxTime + 1, 0, api.ErrRange}, {fast, -api.MaxTime + 1000*second, -api.MaxTime, api.OK}, {fast, -api.MaxTime + 1000*second - 1, 0, api.ErrRange}, {fast, -api.MaxTime, 0, api.ErrRange},
			{slow, -api.MaxTime, -api.MaxTime + 1000*second, api.OK}, {slow, -api.MaxTime - 1, 0, api.ErrRange}, {slow, api.MaxTime - 1000*second, api.MaxTime, api.OK}, {slow, api.MaxTime - 1000*second + 1, 0, api.ErrRange}, {slow, api.MaxTime, 0, api.ErrRange}, {slow, low, 0, api.ErrRange}, {fast, high, 0, api.ErrRange},
		} {
			if utc, err := smear.Read(c.table, s, c.tai); utc != c.want || err != c.err {
				t.Errorf("Read(%v, %v, %d) = %d, %d; want %d, %d", c.table, s, c.tai, utc, err, c.want, c.err)
			}
		}
	}
}

// P7.3
func TestTaiExamples(t *testing.T) {
	const at = 2287785600 * second
	after, centered := api.Smear{Kind: api.SmearAfter, Window: 1000}, api.Smear{Kind: api.SmearCentered, Window: 2}
	for _, c := range []struct {
		table     api.LeapTable
		policy    api.Smear
		utc, want int
	}{
		{example(), steps(), at, july1972 - second}, {example(), steps(), at - 1, july1972 - second - 1}, {example(), steps(), at + second - 1, july1972 - 1}, {example(), steps(), at + second, july1972 + second},
		// All of the deleted second is read as what comes after it.
		{deleting(), steps(), at - second - 1, july1972 - 2*second - 1}, {deleting(), steps(), at - second, july1972 - 2*second}, {deleting(), steps(), at - 1, july1972 - 2*second}, {deleting(), steps(), at, july1972 - 2*second}, {deleting(), steps(), at + 1, july1972 - 2*second + 1},
		{example(), after, at + second, july1972}, {example(), after, at + second - 1, july1972 - 1}, {example(), after, 2287786100500000000, july1972 + 500*second - 1}, {example(), after, 2287786600 * second, july1972 + 1000*second - 1}, {example(), after, 2287786600*second + 1, july1972 + 1000*second + 1},
		// In a window of 2 s an inserted second stops time at every other nanosecond, and a deleted one skips every third.
		{example(), centered, at, july1972 - second}, {example(), centered, at + 1, july1972 - second + 1}, {example(), centered, at + 2, july1972 - second + 3}, {example(), centered, at + 3, july1972 - second + 5},
		{deleting(), centered, at - 2*second, july1972 - 3*second}, {deleting(), centered, at - 2*second + 1, july1972 - 3*second + 1}, {deleting(), centered, at - 2*second + 2, july1972 - 3*second + 1}, {deleting(), centered, at - 2*second + 3, july1972 - 3*second + 2}, {deleting(), centered, at - 2*second + 4, july1972 - 3*second + 3},
	} {
		if tai, err := smear.Tai(c.table, c.policy, c.utc); tai != c.want || err != api.OK {
			t.Errorf("Tai(%v, %v, %d) = %d, %d; want %d", c.table, c.policy, c.utc, tai, err, c.want)
		}
	}
}

// times holds smeared times at which the inverse changes.
func times(t api.LeapTable, s api.Smear) []int {
	list := []int{-api.MaxTime, -api.MaxTime + 1, 0, api.MaxTime - 1, api.MaxTime}
	for i, tai := range instants(t, s) {
		utc := readingOf(t, s, tai)
		list = append(list, utc)
		if i%5 == 0 {
			list = append(list, utc-second-1, utc-second, utc-1, utc+1, utc+second)
		}
	}
	slices.Sort(list)
	list = slices.Compact(list)
	return slices.DeleteFunc(list, func(utc int) bool { return !inTime(utc) })
}

// P7.3
func TestTaiIsTheLeast(t *testing.T) {
	for _, table := range tables() {
		for _, s := range smears() {
			for _, utc := range times(table, s) {
				tai, err := smear.Tai(table, s, utc)
				if readingOf(table, s, api.MaxTime) < utc {
					if tai != 0 || err != api.ErrRange {
						t.Errorf("Tai(%v, %v, %d) = %d, %d; want ErrRange", table, s, utc, tai, err)
					}
					continue
				}
				reads, readErr := smear.Read(table, s, tai)
				if err != api.OK || readErr != api.OK || reads < utc {
					t.Errorf("Tai(%v, %v, %d) = %d, %d, which reads %d, %d", table, s, utc, tai, err, reads, readErr)
				}
				if tai > -api.MaxTime && readingOf(table, s, tai-1) >= utc {
					t.Errorf("Tai(%v, %v, %d) = %d; the instant before reads %d", table, s, utc, tai, readingOf(table, s, tai-1))
				}
			}
		}
	}
}

// stepped is the reference for Tai of SmearStep: of the instants that may be meant
// it returns the first one that reads utc, or else the first one that reads more.
func stepped(t api.LeapTable, utc int) (int, bool) {
	s := steps()
	may := []int{-api.MaxTime, utc + t.Base*second, utc + 1 + t.Base*second}
	for i, e := range t.Entries {
		change, _ := window(t, s, i)
		may = append(may, change, utc+e.Off*second, utc+1+e.Off*second)
	}
	slices.Sort(may)
	for _, fits := range []func(int) bool{func(n int) bool { return n == utc }, func(n int) bool { return n > utc }} {
		for _, tai := range may {
			if reads := readingOf(t, s, tai); inTime(tai) && inTime(reads) && fits(reads) {
				return tai, true
			}
		}
	}
	return 0, false
}

// P7.3
func TestTaiOfSteps(t *testing.T) {
	for _, table := range tables() {
		for _, utc := range times(table, steps()) {
			want, ok := stepped(table, utc)
			wantErr := api.OK
			if !ok {
				wantErr = api.ErrRange
			}
			if tai, err := smear.Tai(table, steps(), utc); tai != want || err != wantErr {
				t.Errorf("Tai(%v, step, %d) = %d, %d; want %d, %d", table, utc, tai, err, want, wantErr)
			}
		}
	}
}

// P7.3
func TestTaiRange(t *testing.T) {
	fast, slow := api.LeapTable{Base: 1000}, api.LeapTable{Base: -1000}
	for _, s := range policies() {
		for _, c := range []struct {
			table     api.LeapTable
			utc, want int
			err       api.Errno
		}{
			{api.LeapTable{}, api.MaxTime, api.MaxTime, api.OK}, {api.LeapTable{}, -api.MaxTime, -api.MaxTime, api.OK}, {api.LeapTable{}, api.MaxTime + 1, 0, api.ErrRange}, {api.LeapTable{}, -api.MaxTime - 1, 0, api.ErrRange},
			{fast, -api.MaxTime, -api.MaxTime + 1000*second, api.OK}, {fast, -api.MaxTime - 1, 0, api.ErrRange}, {fast, api.MaxTime - 1000*second, api.MaxTime, api.OK}, {fast, api.MaxTime - 1000*second + 1, 0, api.ErrRange}, {fast, api.MaxTime, 0, api.ErrRange},
			{slow, api.MaxTime, api.MaxTime - 1000*second, api.OK}, {slow, api.MaxTime + 1, 0, api.ErrRange}, {slow, -api.MaxTime + 1000*second, -api.MaxTime, api.OK}, {slow, -api.MaxTime - 1, 0, api.ErrRange}, {slow, low, 0, api.ErrRange}, {slow, high, 0, api.ErrRange}, {fast, low, 0, api.ErrRange}, {fast, high, 0, api.ErrRange},
			// The first instant of all reads more than these.
			{slow, -api.MaxTime, -api.MaxTime, api.OK}, {slow, -api.MaxTime + 1000*second - 1, -api.MaxTime, api.OK}, {slow, -api.MaxTime + 1000*second + 1, -api.MaxTime + 1, api.OK},
		} {
			if tai, err := smear.Tai(c.table, s, c.utc); tai != c.want || err != c.err {
				t.Errorf("Tai(%v, %v, %d) = %d, %d; want %d, %d", c.table, s, c.utc, tai, err, c.want, c.err)
			}
		}
	}
}

// P7.4
func TestActiveAndRateExamples(t *testing.T) {
	of := func(kind, window int) api.Smear { return api.Smear{Kind: kind, Window: window} }
	for _, c := range []struct {
		table  api.LeapTable
		policy api.Smear
		tai    int
		active bool
		rate   int
	}{
		{example(), of(api.SmearAfter, 1000), july1972, true, -1000000}, {example(), of(api.SmearAfter, 1000), july1972 - 1, false, 0}, {example(), of(api.SmearAfter, 1000), july1972 + 1000*second - 1, true, -1000000}, {example(), of(api.SmearAfter, 1000), july1972 + 1000*second, false, 0},
		{example(), of(api.SmearBefore, 1000), july1972, false, 0}, {example(), of(api.SmearBefore, 1000), july1972 - 1, true, -1000000}, {example(), of(api.SmearBefore, 1000), july1972 - 1000*second, true, -1000000}, {example(), of(api.SmearBefore, 1000), july1972 - 1000*second - 1, false, 0},
		{example(), of(api.SmearCentered, 1000), july1972 - 500*second, true, -1000000}, {example(), of(api.SmearCentered, 1000), july1972 - 500*second - 1, false, 0}, {example(), of(api.SmearCentered, 1000), july1972 + 500*second - 1, true, -1000000}, {example(), of(api.SmearCentered, 1000), july1972 + 500*second, false, 0},
		{example(), steps(), july1972, false, 0}, {example(), steps(), july1972 - 1, false, 0}, {deleting(), steps(), july1972 - 2*second, false, 0},
		// A rate that is no integer is rounded down, also below 0.
		{example(), of(api.SmearAfter, 6), july1972, true, -166666667}, {deleting(), of(api.SmearAfter, 6), july1972, true, 166666666}, {example(), of(api.SmearAfter, 2), july1972, true, -500000000}, {deleting(), of(api.SmearBefore, 2), july1972 - 3*second, true, 500000000},
		{example(), of(api.SmearAfter, 172800), july1972 + 172799*second, true, -5788}, {deleting(), of(api.SmearAfter, 172800), july1972 + 172797*second, true, 5787}, {api.LeapTable{Base: 5}, of(api.SmearAfter, 172800), 0, false, 0},
	} {
		if active, rate := smear.Active(c.table, c.policy, c.tai), smear.Rate(c.table, c.policy, c.tai); active != c.active || rate != c.rate {
			t.Errorf("Active and Rate(%v, %v, %d) = %v, %d; want %v, %d", c.table, c.policy, c.tai, active, rate, c.active, c.rate)
		}
	}
}

// P7.4
func TestActiveAndRate(t *testing.T) {
	for _, table := range tables() {
		for _, s := range policies() {
			for _, tai := range append(instants(table, s), api.MaxTime+1, -api.MaxTime-1, low, high) {
				active, rate := false, 0
				if i := entryOf(table, s, tai); i >= 0 && inTime(tai) {
					part := big.NewInt(int64(offBefore(table, i) - table.Entries[i].Off))
					part.Mul(part, big.NewInt(second))
					active, rate = true, int(part.Div(part, big.NewInt(int64(s.Window))).Int64())
				}
				if a, r := smear.Active(table, s, tai), smear.Rate(table, s, tai); a != active || r != rate {
					t.Errorf("Active and Rate(%v, %v, %d) = %v, %d; want %v, %d", table, s, tai, a, r, active, rate)
				}
			}
		}
	}
}

// P7.5
func TestSmearedTimeNeverRunsBackwards(t *testing.T) {
	for _, table := range tables() {
		for _, s := range smears() {
			last := low
			for _, tai := range instants(table, s) {
				utc, err := smear.Read(table, s, tai)
				if err != api.OK {
					continue
				}
				if utc < last {
					t.Errorf("Read(%v, %v, %d) = %d; an earlier instant reads %d", table, s, tai, utc, last)
				}
				last = utc
				back, err := smear.Tai(table, s, utc)
				again, againErr := smear.Read(table, s, back)
				if err != api.OK || againErr != api.OK || again != utc || back > tai {
					t.Errorf("Tai(%v, %v, %d) = %d, %d, which reads %d, %d; %d reads it too", table, s, utc, back, err, again, againErr, tai)
				}
			}
		}
	}
}

// P7.5
func TestEachNanosecondOfSmearedTime(t *testing.T) {
	for _, table := range []api.LeapTable{example(), deleting()} {
		for _, s := range smears() {
			first, end := window(table, s, 0)
			for _, from := range []int{first - 15, first + (end-first)/2 - 15, end - 15} {
				last, _ := smear.Read(table, s, from-1)
				for tai := from; tai < from+30; tai++ {
					utc, err := smear.Read(table, s, tai)
					if err != api.OK || utc < last || utc > last+2 {
						t.Errorf("Read(%v, %v, %d) = %d, %d; the nanosecond before reads %d", table, s, tai, utc, err, last)
					}
					last = utc
				}
			}
		}
	}
}

// P7.5
func TestStepsThereAndBack(t *testing.T) {
	for _, table := range tables() {
		for _, utc := range times(table, steps()) {
			tai, err := smear.Tai(table, steps(), utc)
			if err != api.OK {
				continue
			}
			deleted := slices.ContainsFunc(table.Entries, func(e api.LeapEntry) bool {
				i := slices.Index(table.Entries, e)
				return e.Off < offBefore(table, i) && utc >= (e.At-1)*second && utc < e.At*second
			})
			reads, err := smear.Read(table, steps(), tai)
			isFirst := tai == -api.MaxTime && reads > utc
			if err != api.OK || (reads == utc) == (deleted || isFirst) {
				t.Errorf("Tai(%v, step, %d) = %d, which reads %d, %d; deleted: %v", table, utc, tai, reads, err, deleted)
			}
		}
	}
}

// P7.5
func TestWindowsDifferByOneSecond(t *testing.T) {
	for _, table := range tables() {
		for _, s := range policies() {
			for _, i := range someEntries(table) {
				first, end := window(table, s, i)
				before, err1 := smear.Read(table, s, first-1)
				after, err2 := smear.Read(table, s, end)
				change := table.Entries[i].Off - offBefore(table, i)
				if err1 != api.OK || err2 != api.OK || after-before != end-first+1-change*second {
					t.Errorf("Read(%v, %v) before and after window %d: %d, %d and %d, %d", table, s, i, before, err1, after, err2)
				}
			}
		}
	}
}

func TestTablesAreNotChanged(t *testing.T) {
	table := monthly(0, 1)
	for _, s := range policies() {
		smear.Check(table, s)
		smear.Read(table, s, 0)
		smear.Tai(table, s, 0)
		smear.Active(table, s, 0)
		smear.Rate(table, s, 0)
	}
	if want := monthly(0, 1); table.Base != want.Base || table.Expires != want.Expires || !slices.Equal(table.Entries, want.Entries) {
		t.Errorf("a call changed its table: %v", table)
	}
}
