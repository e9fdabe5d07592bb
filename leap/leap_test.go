package leap_test

import (
	"math"
	"math/rand"
	"slices"
	"strconv"
	"strings"
	"testing"
	"time"

	"timesync/api"
	"timesync/civil"
	"timesync/leap"
)

const (
	low  = math.MinInt
	high = math.MaxInt

	daySecs   = 86400
	unixEpoch = 2208988800

	// The first seconds of 2017, of the month before, and of the month after.
	year2017     = 3692217600
	december2016 = 3689539200
	february2017 = 3694896000

	// The first and the last second within MaxSec that begin a month.
	firstMonth = -7999776000
	lastMonth  = 7999603200
)

// month returns the first second of a month, counted on from January of a year.
func month(year, number int) int {
	return int(time.Date(year, time.Month(number), 1, 0, 0, 0, 0, time.UTC).Unix()) + unixEpoch
}

func example() api.LeapTable {
	return api.LeapTable{Base: 36, Expires: 3900000000, Entries: []api.LeapEntry{{At: year2017, Off: 37}}}
}

func deleting() api.LeapTable {
	return api.LeapTable{Base: 36, Expires: 3900000000, Entries: []api.LeapEntry{{At: year2017, Off: 35}}}
}

// history has the seconds that were inserted until 2017.
func history() api.LeapTable {
	t := api.LeapTable{Base: 10, Expires: month(2026, 6)}
	for i, at := range [][2]int{
		{1972, 7}, {1973, 1}, {1974, 1}, {1975, 1}, {1976, 1}, {1977, 1}, {1978, 1}, {1979, 1}, {1980, 1}, {1981, 7}, {1982, 7}, {1983, 7}, {1985, 7}, {1988, 1},
		{1990, 1}, {1991, 1}, {1992, 7}, {1993, 7}, {1994, 7}, {1996, 1}, {1997, 7}, {1999, 1}, {2006, 1}, {2009, 1}, {2012, 7}, {2015, 7}, {2017, 1},
	} {
		t.Entries = append(t.Entries, api.LeapEntry{At: month(at[0], at[1]), Off: 11 + i})
	}
	return t
}

// monthly has as many entries as a table may have, one at each month, in an order
// of insertions and deletions that is the same in each run.
func monthly(base int, seed int64) api.LeapTable {
	t := api.LeapTable{Base: base, Expires: month(1905, 1)}
	random := rand.New(rand.NewSource(seed))
	off := base
	for i := range api.MaxLeaps {
		off += 2*random.Intn(2) - 1
		t.Entries = append(t.Entries, api.LeapEntry{At: month(1899, 6+i), Off: off})
	}
	return t
}

// tables holds valid tables.
func tables() []api.LeapTable {
	return []api.LeapTable{
		{}, {Base: 1000, Expires: civil.MaxSec}, {Base: -1000, Expires: -civil.MaxSec}, example(), deleting(), history(), monthly(0, 1), monthly(-30, 2), monthly(900, 3),
		{Base: 0, Expires: 0, Entries: []api.LeapEntry{{At: 0, Off: -1}, {At: month(1900, 2), Off: 0}, {At: month(1900, 3), Off: 1}, {At: month(1900, 4), Off: 0}}},
		{Base: 999, Expires: civil.MaxSec, Entries: []api.LeapEntry{{At: firstMonth, Off: 1000}, {At: lastMonth, Off: 999}}},
		{Base: -999, Expires: civil.MaxSec, Entries: []api.LeapEntry{{At: firstMonth, Off: -1000}, {At: lastMonth, Off: -999}}},
	}
}

type wrongTable struct {
	table api.LeapTable
	want  api.Errno
}

// tooLong has one entry more than a table may have, and wrong numbers besides.
func tooLong() api.LeapTable {
	t := api.LeapTable{Base: 1001, Expires: high}
	for i := range api.MaxLeaps + 1 {
		t.Entries = append(t.Entries, api.LeapEntry{At: i, Off: 5000})
	}
	return t
}

// wrongTables holds tables with an error, most of them with later errors too.
func wrongTables() []wrongTable {
	longOnly := monthly(0, 1)
	longOnly.Entries = append(longOnly.Entries, api.LeapEntry{At: month(1910, 1), Off: longOnly.Entries[api.MaxLeaps-1].Off + 1})
	with := func(entries ...api.LeapEntry) api.LeapTable { return api.LeapTable{Base: 10, Entries: entries} }
	january, february, march := month(1980, 1), month(1980, 2), month(1980, 3)
	return []wrongTable{
		{longOnly, api.ErrLong}, {tooLong(), api.ErrLong},
		{api.LeapTable{Base: 1001}, api.ErrRange}, {api.LeapTable{Base: -1001}, api.ErrRange}, {api.LeapTable{Base: high}, api.ErrRange}, {api.LeapTable{Base: low}, api.ErrRange},
		{api.LeapTable{Expires: civil.MaxSec + 1}, api.ErrRange}, {api.LeapTable{Expires: -civil.MaxSec - 1}, api.ErrRange}, {api.LeapTable{Expires: high}, api.ErrRange}, {api.LeapTable{Expires: low}, api.ErrRange},
		{api.LeapTable{Base: 1000, Entries: []api.LeapEntry{{At: january, Off: 1001}}}, api.ErrRange}, {api.LeapTable{Base: -1000, Entries: []api.LeapEntry{{At: january, Off: -1001}}}, api.ErrRange},
		{api.LeapTable{Base: 1001, Entries: []api.LeapEntry{{At: 1, Off: 1002}}}, api.ErrRange}, {api.LeapTable{Base: 10, Expires: high, Entries: []api.LeapEntry{{At: 1, Off: 11}}}, api.ErrRange},
		{with(api.LeapEntry{At: low, Off: 11}), api.ErrRange}, {with(api.LeapEntry{At: high, Off: 11}), api.ErrRange}, {with(api.LeapEntry{At: month(2153, 8), Off: 11}), api.ErrRange}, {with(api.LeapEntry{At: month(1646, 6), Off: 11}), api.ErrRange},
		{with(api.LeapEntry{At: january + 1, Off: 11}, api.LeapEntry{At: february, Off: 1001}), api.ErrRange}, {with(api.LeapEntry{At: february, Off: 11}, api.LeapEntry{At: january, Off: 12}, api.LeapEntry{At: high, Off: 13}), api.ErrRange},
		{with(api.LeapEntry{At: january + 1, Off: 11}), api.ErrForm}, {with(api.LeapEntry{At: january - 1, Off: 11}), api.ErrForm}, {with(api.LeapEntry{At: january + 60, Off: 11}), api.ErrForm}, {with(api.LeapEntry{At: january + 3600, Off: 11}), api.ErrForm},
		{with(api.LeapEntry{At: january + daySecs, Off: 11}), api.ErrForm}, {with(api.LeapEntry{At: january - daySecs, Off: 11}), api.ErrForm}, {with(api.LeapEntry{At: civil.MaxSec, Off: 11}), api.ErrForm}, {with(api.LeapEntry{At: -civil.MaxSec, Off: 11}), api.ErrForm},
		{with(api.LeapEntry{At: january + 1, Off: 50}), api.ErrForm}, {with(api.LeapEntry{At: february, Off: 11}, api.LeapEntry{At: january + 1, Off: 12}), api.ErrForm},
		{with(api.LeapEntry{At: january + 1, Off: 11}, api.LeapEntry{At: january, Off: 12}), api.ErrForm},
		{with(api.LeapEntry{At: february, Off: 11}, api.LeapEntry{At: january, Off: 12}), api.ErrOrder}, {with(api.LeapEntry{At: january, Off: 11}, api.LeapEntry{At: january, Off: 12}), api.ErrOrder},
		{with(api.LeapEntry{At: february, Off: 11}, api.LeapEntry{At: january, Off: 11}), api.ErrOrder}, {with(api.LeapEntry{At: january, Off: 11}, api.LeapEntry{At: march, Off: 12}, api.LeapEntry{At: february, Off: 13}), api.ErrOrder},
		{with(api.LeapEntry{At: january, Off: 10}), api.ErrRange}, {with(api.LeapEntry{At: january, Off: 12}), api.ErrRange}, {with(api.LeapEntry{At: january, Off: 8}), api.ErrRange}, {with(api.LeapEntry{At: january, Off: -11}), api.ErrRange},
		{with(api.LeapEntry{At: january, Off: 11}, api.LeapEntry{At: february, Off: 11}), api.ErrRange}, {with(api.LeapEntry{At: january, Off: 11}, api.LeapEntry{At: february, Off: 13}), api.ErrRange}, {with(api.LeapEntry{At: january, Off: 11}, api.LeapEntry{At: february, Off: 9}), api.ErrRange},
		{with(api.LeapEntry{At: january, Off: 10}, api.LeapEntry{At: february + 1, Off: 11}), api.ErrRange}, {with(api.LeapEntry{At: january, Off: 12}, api.LeapEntry{At: january, Off: 13}), api.ErrRange},
	}
}

func same(a, b api.LeapTable) bool {
	return a.Base == b.Base && a.Expires == b.Expires && slices.Equal(a.Entries, b.Entries)
}

// instants holds the seconds at which a table changes, and some others.
func instants(t api.LeapTable) []int {
	list := []int{low, low + 1, -civil.MaxSec - 1, -civil.MaxSec, -civil.MaxSec + 1, -1, 0, 1, civil.MaxSec - 1, civil.MaxSec, civil.MaxSec + 1, high - 1, high, t.Expires - 1, t.Expires, t.Expires + 1}
	for _, e := range t.Entries {
		list = append(list, e.At-32*daySecs, e.At-31*daySecs-1, e.At-31*daySecs, e.At-30*daySecs-1, e.At-30*daySecs, e.At-28*daySecs, e.At-2, e.At-1, e.At, e.At+1, e.At+2, e.At+daySecs)
	}
	return list
}

// change returns by how much an entry of a valid table changes the offset.
func change(t api.LeapTable, i int) int {
	if i == 0 {
		return t.Entries[0].Off - t.Base
	}
	return t.Entries[i].Off - t.Entries[i-1].Off
}

// changeAfter returns by how much the offset changes at the end of a second.
func changeAfter(t api.LeapTable, utc int) int {
	for i, e := range t.Entries {
		if utc != high && e.At == utc+1 {
			return change(t, i)
		}
	}
	return 0
}

// P6.1
func TestCheck(t *testing.T) {
	for _, table := range tables() {
		if err := leap.Check(table); err != api.OK {
			t.Errorf("Check(%v) = %d; want OK", table, err)
		}
	}
	for _, c := range wrongTables() {
		if err := leap.Check(c.table); err != c.want {
			t.Errorf("Check(%v) = %d; want %d", c.table, err, c.want)
		}
	}
}

// P6.1 to P6.6
func TestWrongTables(t *testing.T) {
	for _, c := range wrongTables() {
		for _, sec := range []int{0, low, high, month(1980, 1) - 1, month(1980, 1)} {
			if n := leap.Offset(c.table, sec); n != 0 {
				t.Errorf("Offset(%v, %d) = %d; want 0", c.table, sec, n)
			}
			if e, ok := leap.Next(c.table, sec); e != (api.LeapEntry{}) || ok {
				t.Errorf("Next(%v, %d) = %v, %v; want none", c.table, sec, e, ok)
			}
			if n := leap.Indicator(c.table, sec); n != 0 {
				t.Errorf("Indicator(%v, %d) = %d; want 0", c.table, sec, n)
			}
			for _, extra := range []bool{false, true} {
				if tai, err := leap.TAI(c.table, sec, extra); tai != 0 || err != c.want {
					t.Errorf("TAI(%v, %d, %v) = %d, %d; want error %d", c.table, sec, extra, tai, err, c.want)
				}
			}
			if utc, extra, err := leap.UTC(c.table, sec); utc != 0 || extra || err != c.want {
				t.Errorf("UTC(%v, %d) = %d, %v, %d; want error %d", c.table, sec, utc, extra, err, c.want)
			}
		}
		if text := leap.Text(c.table); text != "" {
			t.Errorf("Text(%v) = %q; want no text", c.table, text)
		}
	}
}

// P6.2
func TestOffset(t *testing.T) {
	for _, c := range []struct {
		table     api.LeapTable
		utc, want int
	}{
		{example(), year2017 - 1, 36}, {example(), year2017, 37}, {example(), low, 36}, {example(), high, 37}, {deleting(), year2017 - 1, 36}, {deleting(), year2017, 35}, {api.LeapTable{}, 0, 0}, {api.LeapTable{Base: -7}, high, -7},
		{history(), month(1972, 7) - 1, 10}, {history(), month(1972, 7), 11}, {history(), month(1999, 1) - 1, 31}, {history(), month(1999, 1), 32}, {history(), month(2005, 6), 32}, {history(), high, 37}, {history(), low, 10},
	} {
		if n := leap.Offset(c.table, c.utc); n != c.want {
			t.Errorf("Offset(%v, %d) = %d; want %d", c.table, c.utc, n, c.want)
		}
	}
	for _, table := range tables() {
		for _, utc := range instants(table) {
			want := table.Base
			for _, e := range table.Entries {
				if e.At <= utc {
					want = e.Off
				}
			}
			if n := leap.Offset(table, utc); n != want {
				t.Errorf("Offset(%v, %d) = %d; want %d", table, utc, n, want)
			}
		}
	}
}

// P6.2
func TestNext(t *testing.T) {
	for _, c := range []struct {
		table api.LeapTable
		utc   int
		want  api.LeapEntry
		ok    bool
	}{
		{example(), year2017 - 1, api.LeapEntry{At: year2017, Off: 37}, true}, {example(), low, api.LeapEntry{At: year2017, Off: 37}, true}, {example(), year2017, api.LeapEntry{}, false}, {example(), high, api.LeapEntry{}, false},
		{api.LeapTable{}, low, api.LeapEntry{}, false}, {history(), 0, api.LeapEntry{At: month(1972, 7), Off: 11}, true}, {history(), month(1972, 7), api.LeapEntry{At: month(1973, 1), Off: 12}, true}, {history(), month(2015, 7), api.LeapEntry{At: year2017, Off: 37}, true},
	} {
		if e, ok := leap.Next(c.table, c.utc); e != c.want || ok != c.ok {
			t.Errorf("Next(%v, %d) = %v, %v; want %v, %v", c.table, c.utc, e, ok, c.want, c.ok)
		}
	}
	for _, table := range tables() {
		for _, utc := range instants(table) {
			i := slices.IndexFunc(table.Entries, func(e api.LeapEntry) bool { return e.At > utc })
			want := api.LeapEntry{}
			if i >= 0 {
				want = table.Entries[i]
			}
			if e, ok := leap.Next(table, utc); e != want || ok != (i >= 0) {
				t.Errorf("Next(%v, %d) = %v, %v; want %v", table, utc, e, ok, want)
			}
		}
	}
}

// P6.3
func TestTAI(t *testing.T) {
	ends := api.LeapTable{Base: 999, Expires: civil.MaxSec, Entries: []api.LeapEntry{{At: firstMonth, Off: 1000}}}
	for _, c := range []struct {
		table api.LeapTable
		utc   int
		extra bool
		want  int
		err   api.Errno
	}{
		{example(), year2017 - 1, false, 3692217635, api.OK}, {example(), year2017 - 1, true, 3692217636, api.OK}, {example(), year2017, false, 3692217637, api.OK}, {example(), year2017 - 2, false, 3692217634, api.OK},
		{example(), year2017, true, 0, api.ErrNone}, {example(), year2017 - 2, true, 0, api.ErrNone}, {example(), 0, true, 0, api.ErrNone}, {api.LeapTable{Base: 5}, 0, true, 0, api.ErrNone}, {api.LeapTable{Base: 5}, 7, false, 12, api.OK},
		{deleting(), year2017 - 1, false, 0, api.ErrNone}, {deleting(), year2017 - 1, true, 0, api.ErrNone}, {deleting(), year2017 - 2, false, 3692217634, api.OK}, {deleting(), year2017, false, 3692217635, api.OK}, {deleting(), year2017, true, 0, api.ErrNone},
		{ends, civil.MaxSec, false, civil.MaxSec + 1000, api.OK}, {ends, -civil.MaxSec, false, -civil.MaxSec + 999, api.OK}, {ends, civil.MaxSec, true, 0, api.ErrNone}, {ends, -civil.MaxSec, true, 0, api.ErrNone}, {ends, firstMonth - 1, true, firstMonth + 999, api.OK},
		{ends, civil.MaxSec + 1, false, 0, api.ErrRange}, {ends, -civil.MaxSec - 1, false, 0, api.ErrRange}, {ends, civil.MaxSec + 1, true, 0, api.ErrRange}, {ends, -civil.MaxSec - 1, true, 0, api.ErrRange}, {ends, high, true, 0, api.ErrRange}, {ends, low, false, 0, api.ErrRange},
	} {
		if tai, err := leap.TAI(c.table, c.utc, c.extra); tai != c.want || err != c.err {
			t.Errorf("TAI(%v, %d, %v) = %d, %d; want %d, %d", c.table, c.utc, c.extra, tai, err, c.want, c.err)
		}
	}
}

// P6.3
func TestLabelsThatDoNotExist(t *testing.T) {
	for _, table := range tables() {
		for _, utc := range instants(table) {
			step := changeAfter(table, utc)
			for _, extra := range []bool{false, true} {
				want := api.OK
				if utc < -civil.MaxSec || utc > civil.MaxSec {
					want = api.ErrRange
				} else if extra && step != 1 || !extra && step == -1 {
					want = api.ErrNone
				}
				if tai, err := leap.TAI(table, utc, extra); err != want || err != api.OK && tai != 0 {
					t.Errorf("TAI(%v, %d, %v) = %d, %d; want error %d", table, utc, extra, tai, err, want)
				}
			}
		}
	}
}

// P6.4
func TestUTC(t *testing.T) {
	fast, slow := api.LeapTable{Base: 1000}, api.LeapTable{Base: -1000}
	for _, c := range []struct {
		table api.LeapTable
		tai   int
		want  int
		extra bool
		err   api.Errno
	}{
		{example(), 3692217635, year2017 - 1, false, api.OK}, {example(), 3692217636, year2017 - 1, true, api.OK}, {example(), 3692217637, year2017, false, api.OK}, {example(), 3692217634, year2017 - 2, false, api.OK}, {example(), 3692217638, year2017 + 1, false, api.OK},
		{deleting(), 3692217634, year2017 - 2, false, api.OK}, {deleting(), 3692217635, year2017, false, api.OK}, {deleting(), 3692217636, year2017 + 1, false, api.OK}, {api.LeapTable{}, 0, 0, false, api.OK}, {api.LeapTable{}, -5, -5, false, api.OK},
		{fast, civil.MaxSec + 1000, civil.MaxSec, false, api.OK}, {fast, civil.MaxSec + 1001, 0, false, api.ErrRange}, {fast, -civil.MaxSec + 1000, -civil.MaxSec, false, api.OK}, {fast, -civil.MaxSec + 999, 0, false, api.ErrRange},
		{slow, civil.MaxSec - 1000, civil.MaxSec, false, api.OK}, {slow, civil.MaxSec - 999, 0, false, api.ErrRange}, {slow, -civil.MaxSec - 1000, -civil.MaxSec, false, api.OK}, {slow, -civil.MaxSec - 1001, 0, false, api.ErrRange},
		{fast, low, 0, false, api.ErrRange}, {fast, low + 999, 0, false, api.ErrRange}, {fast, high, 0, false, api.ErrRange}, {slow, high, 0, false, api.ErrRange}, {slow, high - 999, 0, false, api.ErrRange}, {slow, low, 0, false, api.ErrRange}, {history(), high, 0, false, api.ErrRange}, {history(), low, 0, false, api.ErrRange},
	} {
		if utc, extra, err := leap.UTC(c.table, c.tai); utc != c.want || extra != c.extra || err != c.err {
			t.Errorf("UTC(%v, %d) = %d, %v, %d; want %d, %v, %d", c.table, c.tai, utc, extra, err, c.want, c.extra, c.err)
		}
	}
}

// P6.5
func TestIndicator(t *testing.T) {
	atEnd := api.LeapTable{Base: 0, Expires: civil.MaxSec, Entries: []api.LeapEntry{{At: 0, Off: 1}}}
	begin := api.LeapTable{Base: 0, Expires: civil.MaxSec, Entries: []api.LeapEntry{{At: firstMonth, Off: 1}}}
	soon := api.LeapTable{Base: 0, Expires: 0, Entries: []api.LeapEntry{{At: month(1900, 1), Off: 1}, {At: month(1900, 2), Off: 0}}}
	for _, c := range []struct {
		table     api.LeapTable
		utc, want int
	}{
		{example(), year2017 - 1, 1}, {example(), december2016, 1}, {example(), december2016 - 1, 0}, {example(), year2017, 0}, {example(), 3900000000, 3}, {example(), 3899999999, 0}, {example(), high, 3}, {example(), low, 0}, {example(), 0, 0},
		{deleting(), year2017 - 1, 2}, {deleting(), december2016, 2}, {deleting(), december2016 - 1, 0}, {deleting(), year2017, 0}, {api.LeapTable{}, -1, 0}, {api.LeapTable{}, 0, 3},
		// No entry is announced by a month of another year.
		{example(), month(2015, 12), 0}, {example(), month(2016, 1), 0}, {example(), month(2017, 12), 0},
		// Second 0 does not follow on a month whose end is out of range.
		{atEnd, civil.MaxSec - 1, 0}, {atEnd, civil.MaxSec, 3}, {atEnd, -1, 1}, {atEnd, -31 * daySecs, 1}, {atEnd, -31*daySecs - 1, 0},
		{begin, -civil.MaxSec, 1}, {begin, -civil.MaxSec - 1, 0}, {begin, low, 0}, {begin, firstMonth - 1, 1}, {begin, firstMonth, 0},
		{soon, -1, 1}, {soon, 0, 3}, {soon, month(1900, 2) - 1, 3}, {soon, high, 3},
		{api.LeapTable{Expires: -civil.MaxSec}, -civil.MaxSec, 3}, {api.LeapTable{Expires: -civil.MaxSec}, -civil.MaxSec - 1, 0}, {api.LeapTable{Expires: civil.MaxSec}, civil.MaxSec + 1, 3},
	} {
		if n := leap.Indicator(c.table, c.utc); n != c.want {
			t.Errorf("Indicator(%v, %d) = %d; want %d", c.table, c.utc, n, c.want)
		}
	}
}

// announced returns the indicator that another calendar leads to.
func announced(t api.LeapTable, utc int) int {
	if utc >= t.Expires {
		return 3
	}
	if utc < -civil.MaxSec {
		return 0
	}
	at := time.Unix(int64(utc)-unixEpoch, 0).UTC()
	for i, e := range t.Entries {
		if e.At == month(at.Year(), int(at.Month())+1) {
			return map[int]int{1: 1, -1: 2}[change(t, i)]
		}
	}
	return 0
}

// P6.5, P6.10
func TestAnnouncement(t *testing.T) {
	for _, table := range tables() {
		for _, utc := range instants(table) {
			n := leap.Indicator(table, utc)
			if n != announced(table, utc) {
				t.Errorf("Indicator(%v, %d) = %d; want %d", table, utc, n, announced(table, utc))
			}
			if n != 1 && n != 2 {
				continue
			}
			e, ok := leap.Next(table, utc)
			step := e.Off - leap.Offset(table, utc)
			if !ok || e.At <= utc || e.At > utc+31*daySecs || n == 1 && step != 1 || n == 2 && step != -1 {
				t.Errorf("at %d of %v: Indicator %d, Next %v, %v", utc, table, n, e, ok)
			}
		}
	}
}

// P6.6
func TestText(t *testing.T) {
	for _, c := range []struct {
		table api.LeapTable
		want  string
	}{
		{example(), "#@ 3900000000\n#= 36\n3692217600 37\n"}, {api.LeapTable{}, "#@ 0\n#= 0\n"}, {api.LeapTable{Base: -1000, Expires: -civil.MaxSec}, "#@ -8000000000\n#= -1000\n"},
		{api.LeapTable{Base: 1, Expires: 5, Entries: []api.LeapEntry{{At: -31 * daySecs, Off: 0}, {At: 0, Off: -1}, {At: 31 * daySecs, Off: 0}}}, "#@ 5\n#= 1\n-2678400 0\n0 -1\n2678400 0\n"},
	} {
		if text := leap.Text(c.table); text != c.want {
			t.Errorf("Text(%v) = %q; want %q", c.table, text, c.want)
		}
	}
}

// P6.7
func TestParse(t *testing.T) {
	for _, text := range []string{
		"#@ 3900000000\n#= 36\n3692217600 37\n", "#@ 3900000000\n#= 36\n3692217600 37", "3692217600 37\n#= 36\n#@ 3900000000", "\n\n#@\t3900000000\n \t \n#=\t36\n\n3692217600\t37\n\n\n",
		"# comment\n#@ \t 3900000000 \t\n#\n## 1 2\n#=  36\t \n\t 3692217600 \t 37 \t\n", "#@ 3900000000\n#= 36\n3692217600 37# 1 Jan 2017\n", "#@ 3900000000\n#= 36\n3692217600 37 # 1 Jan 2017 # 5\n  # 7 8\n\t#@ 5\n #= 6\n#",
		"#@3900000001\n#=35\n#@\n#=\n#@x\n#=x 1\n#@#@ 5\n#\t@ 5\n# @ 5\n#$ 5\n#@ 3900000000\n#= 36\n3692217600 37\n", "#@ 3900000000\n#= 36\n3692217600 37 #= 5\n#\r\n#\xff\n #\xff\n", "#@ 3900000000\n#= 36\n#3692217600 38\n3692217600 37\n#",
	} {
		if table, err := leap.Parse(text); !same(table, example()) || err != api.OK {
			t.Errorf("Parse(%q) = %v, %d; want %v", text, table, err, example())
		}
	}
	want := api.LeapTable{Base: 0, Expires: -5, Entries: []api.LeapEntry{{At: -31 * daySecs, Off: -1}, {At: 0, Off: -2}}}
	if table, err := leap.Parse("#= 0\n#@ -5\n-2678400 -1\n0 -2"); !same(table, want) || err != api.OK {
		t.Errorf("Parse = %v, %d; want %v", table, err, want)
	}
}

// P6.7
func TestParseText(t *testing.T) {
	const head = "#@ 3900000000\n#= 36\n"
	for _, line := range []string{
		"3692217600", "37", "3692217600 37 0", "3692217600 37 37 37", "3692217600,37", "a b", "3692217600 x", "x 37", "3692217600 37x", "3692217600 # 37", "3692217600 37 .", "x", "x # y",
		"03692217600 37", "3692217600 037", "3692217600 +37", "+3692217600 37", "3692217600 00", "3692217600 -0", "-0 37", "3692217600 -037", "3692217600 --37", "3692217600 - 37", "3692217600 -", "3692217600 37.0", "3692217600 3_7", "0x10 37", "1e9 37",
		"9223372036854775808 37", "-9223372036854775809 37", "3692217600 18446744073709551653", "3692217600 " + strings.Repeat("9", 1000), strings.Repeat("1 ", 1000),
		"3692217600 37\r", "3692217600\v37", "3692217600\f37", "3692217600\u00a037", "\r", "\x00", "3692217600 37\x00", "3692217600 \xff", "3692217600 ٣٧",
		"#@ 3900000000", "#= 36", "#@ 1", "#= 1", "#@\t1", "#=\t1", "#@ ", "#= ", "#@\t", "#= \t ", "#@ x", "#= x", "#@ 1 2", "#= 1 2", "#@ 1 # x", "#= 1 #", "#@ 01", "#= +1", "#@ -0", "#= 1x", "#@ 9223372036854775808", "#= #= 1", "#@ 5\r", "#= \r",
	} {
		for _, text := range []string{head + line, head + line + "\n", line + "\n" + head, head + "3692217600 37\n" + line + "\n#"} {
			checkNoParse(t, text, api.ErrText)
		}
	}
	for _, text := range []string{"x", "5", "1 2 3", "#@ 5\n#@ 5\n", "#= 5\n#= 5\n", "#@ 5\n#@ x", "#@ x", "#= ", "#= 9999\n#= 9999", "#@ 5\n1 2\nx", "#@ 1 #= 2"} {
		checkNoParse(t, text, api.ErrText)
	}
}

// P6.7
func TestParseNone(t *testing.T) {
	for _, text := range []string{
		"", "\n", "\n\n\n", " \t", "#", "# text", "#@ 5", "#= 5", "#@ 5\n", "#= 5\n3692217600 37\n", "#@ 5\n3692217600 37\n", "3692217600 37", "#@5\n#=5\n", "#@ 5\n#=6\n", "#@5\n#= 6\n", "#@ 5\n #= 6\n", " #@ 5\n#= 6", "#@\n#=\n",
		// The table has an error too, but a missing number comes first.
		"#= 9999", "#@ 9223372036854775807\n1 2\n", "1 2\n1 2",
	} {
		checkNoParse(t, text, api.ErrNone)
	}
}

// P6.7
func TestParseCheck(t *testing.T) {
	var many strings.Builder
	for i := range api.MaxLeaps + 1 {
		many.WriteString(strconv.Itoa(month(1900, i)) + " " + strconv.Itoa(1+i) + "\n")
	}
	for _, c := range []struct {
		text string
		want api.Errno
	}{
		{"#@ 5\n#= 1001\n", api.ErrRange}, {"#@ 9223372036854775807\n#= 0", api.ErrRange}, {"#@ -9223372036854775808\n#= 0", api.ErrRange}, {"#@ 0\n#= 0\n3692217600 37\n", api.ErrRange}, {"#@ 0\n#= 36\n3692217601 37\n", api.ErrForm}, {"#@ 0\n#= 36\n9223372036854775807 37\n", api.ErrRange},
		{"#@ 0\n#= 36\n3692217600 37\n3692217600 38\n", api.ErrOrder}, {"#@ 0\n#= 36\n3692217600 37\n3689539200 38\n", api.ErrOrder}, {"#@ 0\n#= 0\n" + many.String(), api.ErrLong}, {"#@ 0\n#= 0\n" + strings.Repeat("5 5000\n", 1000), api.ErrLong},
	} {
		checkNoParse(t, c.text, c.want)
	}
}

func checkNoParse(t *testing.T, text string, want api.Errno) {
	t.Helper()
	if table, err := leap.Parse(text); !same(table, api.LeapTable{}) || err != want {
		t.Errorf("Parse(%q) = %v, %d; want error %d", text, table, err, want)
	}
}

type label struct {
	utc   int
	extra bool
}

// labels returns the labels of the seconds from one to another one, as the
// definition of labels tells them.
func labels(t api.LeapTable, from, to int) []label {
	var list []label
	for utc := from; utc <= to; utc++ {
		step := changeAfter(t, utc)
		if step != -1 {
			list = append(list, label{utc, false})
		}
		if step == 1 {
			list = append(list, label{utc, true})
		}
	}
	return list
}

// P6.8
func TestOneToOne(t *testing.T) {
	for _, table := range tables() {
		for _, middle := range append(instants(table), -civil.MaxSec+5, civil.MaxSec-5) {
			if middle < -civil.MaxSec+5 || middle > civil.MaxSec-5 {
				continue
			}
			list := labels(table, middle-5, middle+5)
			first, _ := leap.TAI(table, list[0].utc, list[0].extra)
			for i, l := range list {
				tai, err := leap.TAI(table, l.utc, l.extra)
				if tai != first+i || err != api.OK {
					t.Errorf("TAI(%v, %v) = %d, %d; want %d", table, l, tai, err, first+i)
				}
				utc, extra, err := leap.UTC(table, first+i)
				if (label{utc, extra}) != l || err != api.OK {
					t.Errorf("UTC(%v, %d) = %d, %v, %d; want %v", table, first+i, utc, extra, err, l)
				}
			}
		}
	}
}

// P6.8
func TestFirstAndLastLabel(t *testing.T) {
	for _, table := range tables() {
		first, err1 := leap.TAI(table, -civil.MaxSec, false)
		last, err2 := leap.TAI(table, civil.MaxSec, false)
		if err1 != api.OK || err2 != api.OK {
			t.Errorf("TAI of the first and the last label of %v: errors %d, %d", table, err1, err2)
		}
		for _, tai := range []int{first - 1, last + 1} {
			if utc, extra, err := leap.UTC(table, tai); utc != 0 || extra || err != api.ErrRange {
				t.Errorf("UTC(%v, %d) = %d, %v, %d; want ErrRange", table, tai, utc, extra, err)
			}
		}
	}
}

// P6.9
func TestThereAndBack(t *testing.T) {
	for _, table := range tables() {
		text := leap.Text(table)
		if back, err := leap.Parse(text); !same(back, table) || err != api.OK {
			t.Errorf("Parse(%q) = %v, %d; want %v", text, back, err, table)
		}
		spaced := "# A table\n" + strings.ReplaceAll(strings.ReplaceAll(text, " ", " \t "), "\n", " \n\n")
		parsed, err := leap.Parse(spaced)
		if err != api.OK || leap.Text(parsed) != text {
			t.Errorf("Parse(%q) = %v, %d, whose text is not %q", spaced, parsed, err, text)
		}
	}
}

func TestTablesAreNotShared(t *testing.T) {
	table := history()
	leap.Check(table)
	leap.Offset(table, year2017)
	leap.Text(table)
	if !same(table, history()) {
		t.Errorf("a call changed its argument: %v", table)
	}
	text := leap.Text(table)
	parsed, _ := leap.Parse(text)
	parsed.Entries[0].Off = 99
	if again, err := leap.Parse(text); !same(again, history()) || err != api.OK {
		t.Errorf("a result changed the next one: %v, %d", again, err)
	}
}
