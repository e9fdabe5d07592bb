package civil_test

import (
	"math"
	"math/rand"
	"strings"
	"testing"
	"time"

	"timesync/api"
	"timesync/civil"
)

const (
	low  = math.MinInt
	high = math.MaxInt

	daySecs   = 86400
	cycleSecs = 146097 * daySecs
	unixEpoch = 2208988800
)

// seconds holds the seconds at which years, months, days and limits change, and
// some between them that are the same in each run.
func seconds() []int {
	list := []int{-civil.MaxSec, -civil.MaxSec + 1, civil.MaxSec - 1, civil.MaxSec}
	for year := 1647; year <= 2152; year++ {
		list = append(list, around(year, 1)...)
		list = append(list, around(year, 3)...)
	}
	for _, year := range []int{1700, 1896, 1899, 1900, 1901, 1904, 1999, 2000, 2001, 2016, 2100} {
		for month := 1; month <= 12; month++ {
			list = append(list, around(year, month)...)
		}
	}
	random := rand.New(rand.NewSource(1))
	for range 200 {
		list = append(list, random.Intn(2*civil.MaxSec+1)-civil.MaxSec)
	}
	return list
}

// around returns the seconds beside the beginnings of a month's first days and of
// the day before.
func around(year, month int) []int {
	first := int(time.Date(year, time.Month(month), 1, 0, 0, 0, 0, time.UTC).Unix()) + unixEpoch
	return []int{first - daySecs - 1, first - daySecs, first - 1, first, first + 1, first + daySecs - 1, first + daySecs}
}

// reference returns the civil time of a second that another calendar names.
func reference(sec int) api.Civil {
	at := time.Unix(int64(sec)-unixEpoch, 0).UTC()
	return api.Civil{Year: at.Year(), Month: int(at.Month()), Day: at.Day(), Hour: at.Hour(), Minute: at.Minute(), Sec: at.Second()}
}

func valid() []api.Civil {
	return []api.Civil{
		{Year: 1900, Month: 1, Day: 1}, {Year: 1600, Month: 1, Day: 1}, {Year: 2200, Month: 12, Day: 31, Hour: 23, Minute: 59, Sec: 59, Nano: 999999999},
		{Year: 1600, Month: 2, Day: 29}, {Year: 2000, Month: 2, Day: 29}, {Year: 1904, Month: 2, Day: 29}, {Year: 1900, Month: 2, Day: 28}, {Year: 2200, Month: 2, Day: 28},
		{Year: 2016, Month: 4, Day: 30, Hour: 12, Minute: 34, Sec: 56, Nano: 789}, {Year: 2016, Month: 1, Day: 31, Nano: 1}, {Year: 2016, Month: 12, Day: 31, Hour: 23},
		{Year: 2016, Month: 6, Day: 30, Minute: 59}, {Year: 2016, Month: 9, Day: 30, Sec: 59}, {Year: 2016, Month: 11, Day: 30}, {Year: 2016, Month: 7, Day: 31}, {Year: 2016, Month: 8, Day: 31},
	}
}

func invalid() []api.Civil {
	list := []api.Civil{
		{}, {Year: 1599, Month: 12, Day: 31}, {Year: 2201, Month: 1, Day: 1}, {Year: 0, Month: 1, Day: 1}, {Year: -1900, Month: 1, Day: 1},
		{Year: 1900, Month: 2, Day: 29}, {Year: 2100, Month: 2, Day: 29}, {Year: 2023, Month: 2, Day: 29}, {Year: 2000, Month: 2, Day: 30},
		{Year: 2000, Month: 4, Day: 31}, {Year: 2000, Month: 6, Day: 31}, {Year: 2000, Month: 9, Day: 31}, {Year: 2000, Month: 11, Day: 31}, {Year: 2000, Month: 1, Day: 32}, {Year: 2000, Month: 12, Day: 32},
	}
	for _, n := range []int{low, -1, high} {
		list = append(list,
			api.Civil{Year: n, Month: 1, Day: 1}, api.Civil{Year: 2000, Month: n, Day: 1}, api.Civil{Year: 2000, Month: 1, Day: n},
			api.Civil{Year: 2000, Month: 1, Day: 1, Hour: n}, api.Civil{Year: 2000, Month: 1, Day: 1, Minute: n}, api.Civil{Year: 2000, Month: 1, Day: 1, Sec: n}, api.Civil{Year: 2000, Month: 1, Day: 1, Nano: n})
	}
	return append(list,
		api.Civil{Year: 2000, Month: 0, Day: 1}, api.Civil{Year: 2000, Month: 13, Day: 1}, api.Civil{Year: 2000, Month: 1, Day: 0},
		api.Civil{Year: 2000, Month: 1, Day: 1, Hour: 24}, api.Civil{Year: 2000, Month: 1, Day: 1, Minute: 60}, api.Civil{Year: 2000, Month: 1, Day: 1, Sec: 60}, api.Civil{Year: 2000, Month: 1, Day: 1, Nano: 1000000000})
}

// P5.1
func TestCheck(t *testing.T) {
	for _, c := range valid() {
		if err := civil.Check(c); err != api.OK {
			t.Errorf("Check(%v) = %d; want OK", c, err)
		}
	}
	for _, c := range invalid() {
		if err := civil.Check(c); err != api.ErrRange {
			t.Errorf("Check(%v) = %d; want ErrRange", c, err)
		}
	}
}

// P5.2
func TestOf(t *testing.T) {
	if civil.MaxSec != 8000000000 {
		t.Errorf("MaxSec is %d", civil.MaxSec)
	}
	for _, c := range []struct {
		sec  int
		want api.Civil
	}{
		{0, api.Civil{Year: 1900, Month: 1, Day: 1}}, {-1, api.Civil{Year: 1899, Month: 12, Day: 31, Hour: 23, Minute: 59, Sec: 59}}, {2272060800, api.Civil{Year: 1972, Month: 1, Day: 1}},
		{59, api.Civil{Year: 1900, Month: 1, Day: 1, Sec: 59}}, {60, api.Civil{Year: 1900, Month: 1, Day: 1, Minute: 1}}, {3600, api.Civil{Year: 1900, Month: 1, Day: 1, Hour: 1}}, {-daySecs, api.Civil{Year: 1899, Month: 12, Day: 31}},
		{5097599, api.Civil{Year: 1900, Month: 2, Day: 28, Hour: 23, Minute: 59, Sec: 59}}, {5097600, api.Civil{Year: 1900, Month: 3, Day: 1}}, {3160857599, api.Civil{Year: 2000, Month: 2, Day: 29, Hour: 23, Minute: 59, Sec: 59}},
		{civil.MaxSec, api.Civil{Year: 2153, Month: 7, Day: 5, Hour: 14, Minute: 13, Sec: 20}}, {-civil.MaxSec, api.Civil{Year: 1646, Month: 6, Day: 28, Hour: 9, Minute: 46, Sec: 40}},
	} {
		if got, err := civil.Of(c.sec); got != c.want || err != api.OK {
			t.Errorf("Of(%d) = %v, %d; want %v", c.sec, got, err, c.want)
		}
	}
	for _, sec := range seconds() {
		if got, err := civil.Of(sec); got != reference(sec) || err != api.OK {
			t.Errorf("Of(%d) = %v, %d; want %v", sec, got, err, reference(sec))
		}
	}
	for _, sec := range []int{civil.MaxSec + 1, -civil.MaxSec - 1, high, low} {
		if got, err := civil.Of(sec); got != (api.Civil{}) || err != api.ErrRange {
			t.Errorf("Of(%d) = %v, %d; want ErrRange", sec, got, err)
		}
	}
}

// P5.2
func TestSeconds(t *testing.T) {
	for _, c := range []struct {
		c    api.Civil
		want int
		err  api.Errno
	}{
		{api.Civil{Year: 1900, Month: 1, Day: 1}, 0, api.OK}, {api.Civil{Year: 1900, Month: 1, Day: 1, Nano: 999999999}, 0, api.OK}, {api.Civil{Year: 1899, Month: 12, Day: 31, Hour: 23, Minute: 59, Sec: 59, Nano: 5}, -1, api.OK},
		{api.Civil{Year: 1970, Month: 1, Day: 1}, unixEpoch, api.OK}, {api.Civil{Year: 2016, Month: 12, Day: 31, Hour: 23, Minute: 59, Sec: 59}, 3692217599, api.OK}, {api.Civil{Year: 2000, Month: 2, Day: 29, Hour: 1, Minute: 2, Sec: 3}, 3160774923, api.OK},
		{api.Civil{Year: 2153, Month: 7, Day: 5, Hour: 14, Minute: 13, Sec: 20}, civil.MaxSec, api.OK}, {api.Civil{Year: 2153, Month: 7, Day: 5, Hour: 14, Minute: 13, Sec: 20, Nano: 999999999}, civil.MaxSec, api.OK},
		{api.Civil{Year: 2153, Month: 7, Day: 5, Hour: 14, Minute: 13, Sec: 21}, 0, api.ErrRange}, {api.Civil{Year: 2154, Month: 1, Day: 1}, 0, api.ErrRange}, {api.Civil{Year: 2200, Month: 12, Day: 31}, 0, api.ErrRange},
		{api.Civil{Year: 1646, Month: 6, Day: 28, Hour: 9, Minute: 46, Sec: 40}, -civil.MaxSec, api.OK}, {api.Civil{Year: 1646, Month: 6, Day: 28, Hour: 9, Minute: 46, Sec: 39, Nano: 999999999}, 0, api.ErrRange}, {api.Civil{Year: 1600, Month: 1, Day: 1}, 0, api.ErrRange},
	} {
		if sec, err := civil.Seconds(c.c); sec != c.want || err != c.err {
			t.Errorf("Seconds(%v) = %d, %d; want %d, %d", c.c, sec, err, c.want, c.err)
		}
	}
	for _, c := range invalid() {
		if sec, err := civil.Seconds(c); sec != 0 || err != api.ErrRange {
			t.Errorf("Seconds(%v) = %d, %d; want 0, ErrRange", c, sec, err)
		}
	}
}

// P5.3
func TestWeekday(t *testing.T) {
	for _, c := range []struct{ sec, want int }{
		{0, 0}, {daySecs - 1, 0}, {daySecs, 1}, {6 * daySecs, 6}, {7*daySecs - 1, 6}, {7 * daySecs, 0}, {-1, 6}, {-daySecs, 6}, {-daySecs - 1, 5}, {-7 * daySecs, 0}, {-7*daySecs - 1, 6},
		{unixEpoch, 3}, {3692217600, 6}, {civil.MaxSec + 1, 3}, {-civil.MaxSec - 1, 3}, {high, 3}, {low, 3},
	} {
		if day := civil.Weekday(c.sec); day != c.want {
			t.Errorf("Weekday(%d) = %d; want %d", c.sec, day, c.want)
		}
	}
	for _, sec := range seconds() {
		sunday := int(time.Unix(int64(sec)-unixEpoch, 0).UTC().Weekday())
		if day := civil.Weekday(sec); day != (sunday+6)%7 {
			t.Errorf("Weekday(%d) = %d; want %d", sec, day, (sunday+6)%7)
		}
	}
}

// P5.3
func TestMonthDays(t *testing.T) {
	for month, want := range []int{0, 31, 28, 31, 30, 31, 30, 31, 31, 30, 31, 30, 31, 0} {
		if days := civil.MonthDays(2023, month); days != want {
			t.Errorf("MonthDays(2023, %d) = %d; want %d", month, days, want)
		}
		if month != 2 && civil.MonthDays(2024, month) != want {
			t.Errorf("MonthDays(2024, %d) = %d; want %d", month, civil.MonthDays(2024, month), want)
		}
	}
	for _, c := range []struct{ year, month, want int }{
		{1900, 2, 28}, {2000, 2, 29}, {-4, 2, 29}, {0, 2, 29}, {4, 2, 29}, {1, 2, 28}, {-1, 2, 28}, {-100, 2, 28}, {-400, 2, 29}, {-2, 2, 28}, {2024, 2, 29}, {2100, 2, 28}, {2200, 2, 28}, {2400, 2, 29}, {1600, 2, 29},
		{high, 2, 28}, {low, 2, 29}, {high, 1, 31}, {low, 4, 30}, {high - 3, 2, 29}, {2000, -1, 0}, {2000, low, 0}, {2000, high, 0}, {2000, -2, 0}, {high, 13, 0},
	} {
		if days := civil.MonthDays(c.year, c.month); days != c.want {
			t.Errorf("MonthDays(%d, %d) = %d; want %d", c.year, c.month, days, c.want)
		}
	}
}

// P5.3
func TestMJD(t *testing.T) {
	for _, c := range []struct{ sec, want int }{
		{0, 15020}, {unixEpoch, 40587}, {2272060800, 41317}, {daySecs - 1, 15020}, {daySecs, 15021}, {-1, 15019}, {-daySecs, 15019}, {-daySecs - 1, 15018}, {-15020 * daySecs, 0}, {-15020*daySecs - 1, -1},
		{civil.MaxSec + 1, 107612}, {-civil.MaxSec - 1, -77573}, {high, 106751991182320}, {low, -106751991152281},
	} {
		if day := civil.MJD(c.sec); day != c.want {
			t.Errorf("MJD(%d) = %d; want %d", c.sec, day, c.want)
		}
	}
}

// P5.4
func TestText(t *testing.T) {
	for _, c := range []struct {
		c    api.Civil
		want string
	}{
		{api.Civil{Year: 1900, Month: 1, Day: 1}, "1900-01-01T00:00:00.000000000Z"}, {api.Civil{Year: 2016, Month: 12, Day: 31, Hour: 23, Minute: 59, Sec: 58, Nano: 123456789}, "2016-12-31T23:59:58.123456789Z"},
		{api.Civil{Year: 2004, Month: 5, Day: 6, Hour: 7, Minute: 8, Sec: 9, Nano: 10}, "2004-05-06T07:08:09.000000010Z"}, {api.Civil{Year: 1600, Month: 1, Day: 1, Nano: 1}, "1600-01-01T00:00:00.000000001Z"},
		{api.Civil{Year: 2200, Month: 12, Day: 31, Hour: 23, Minute: 59, Sec: 59, Nano: 999999999}, "2200-12-31T23:59:59.999999999Z"}, {api.Civil{Year: 2000, Month: 2, Day: 29, Nano: 100000000}, "2000-02-29T00:00:00.100000000Z"},
	} {
		if text := civil.Text(c.c); text != c.want {
			t.Errorf("Text(%v) = %q; want %q", c.c, text, c.want)
		}
		if got, err := civil.Parse(c.want); got != c.c || err != api.OK {
			t.Errorf("Parse(%q) = %v, %d; want %v", c.want, got, err, c.c)
		}
	}
	for _, c := range invalid() {
		if text := civil.Text(c); text != "" {
			t.Errorf("Text(%v) = %q; want no text", c, text)
		}
	}
}

// P5.4
func TestParseForm(t *testing.T) {
	const text = "2004-05-06T07:08:09.000000010Z"
	for i := range len(text) {
		for _, wrong := range "/:;,-.TZtz aA+_\x00\n" {
			if byte(wrong) == text[i] {
				continue
			}
			checkNoParse(t, text[:i]+string(wrong)+text[i+1:], api.ErrText)
		}
		checkNoParse(t, text[:i]+"\xff"+text[i+1:], api.ErrText)
		checkNoParse(t, text[:i], api.ErrText)
		checkNoParse(t, text[:i]+text[i+1:], api.ErrText)
		checkNoParse(t, text[:i]+"0"+text[i:], api.ErrText)
		if text[i] < '0' || text[i] > '9' {
			checkNoParse(t, text[:i]+"0"+text[i+1:], api.ErrText)
		}
	}
	for _, s := range []string{
		"", "Z", " " + text, text + " ", text + "\n", text + "Z", text + text, strings.Repeat("0", 30), strings.Repeat("-", 30), strings.Repeat("0", 1000),
		"2004-05-06T07:08:09.00000010Z", "2004-05-06 07:08:09.000000010Z", "+004-05-06T07:08:09.000000010Z", "-004-05-06T07:08:09.000000010Z", "2004-+5-06T07:08:09.000000010Z", "2004-05-06T07:08:09.+00000010Z", "2004-05-06T07:08:09.0000_0010Z",
		"200٤-05-06T07:08:09.00000010Z", "12004-05-06T07:08:09.00000010Z", "9999-99-99T99:99:99.99999999ZZ", "9999-99-99T99:99:99.99999999-Z",
	} {
		checkNoParse(t, s, api.ErrText)
	}
}

// P5.4
func TestParseRange(t *testing.T) {
	for _, s := range []string{
		"2016-12-31T23:59:60.000000000Z", "2016-12-31T23:60:00.000000000Z", "2016-12-31T24:00:00.000000000Z", "2016-12-32T00:00:00.000000000Z", "2016-13-01T00:00:00.000000000Z", "1900-02-29T00:00:00.000000000Z",
		"0000-01-01T00:00:00.000000000Z", "1599-12-31T23:59:59.999999999Z", "2201-01-01T00:00:00.000000000Z", "2016-00-01T00:00:00.000000000Z", "2016-01-00T00:00:00.000000000Z", "9999-99-99T99:99:99.999999999Z",
	} {
		checkNoParse(t, s, api.ErrRange)
	}
}

func checkNoParse(t *testing.T, s string, want api.Errno) {
	t.Helper()
	if c, err := civil.Parse(s); c != (api.Civil{}) || err != want {
		t.Errorf("Parse(%q) = %v, %d; want error %d", s, c, err, want)
	}
}

// P5.5
func TestCivilRoundTrip(t *testing.T) {
	for _, sec := range seconds() {
		c, err := civil.Of(sec)
		if err != api.OK || civil.Check(c) != api.OK || c.Nano != 0 {
			t.Errorf("Of(%d) = %v, %d", sec, c, err)
		}
		if back, err := civil.Seconds(c); back != sec || err != api.OK {
			t.Errorf("Seconds(Of(%d)) = %d, %d", sec, back, err)
		}
	}
	for _, c := range valid() {
		sec, err := civil.Seconds(c)
		if err != api.OK {
			continue
		}
		withoutNano := c
		withoutNano.Nano = 0
		if back, err := civil.Of(sec); back != withoutNano || err != api.OK {
			t.Errorf("Of(Seconds(%v)) = %v, %d", c, back, err)
		}
	}
}

// next returns the civil time a second later, by counting its fields on.
func next(c api.Civil) api.Civil {
	if c.Sec++; c.Sec < 60 {
		return c
	}
	c.Sec = 0
	if c.Minute++; c.Minute < 60 {
		return c
	}
	c.Minute = 0
	if c.Hour++; c.Hour < 24 {
		return c
	}
	c.Hour = 0
	if c.Day++; c.Day <= civil.MonthDays(c.Year, c.Month) {
		return c
	}
	c.Day = 1
	if c.Month++; c.Month <= 12 {
		return c
	}
	c.Month = 1
	c.Year++
	return c
}

// P5.6
func TestNextSecond(t *testing.T) {
	for _, sec := range seconds() {
		if sec == civil.MaxSec {
			continue
		}
		c, _ := civil.Of(sec)
		if later, err := civil.Of(sec + 1); later != next(c) || err != api.OK {
			t.Errorf("Of(%d) = %v, %d; want %v", sec+1, later, err, next(c))
		}
	}
}

// P5.6
func TestEachDayFollows(t *testing.T) {
	c, _ := civil.Of(-92591*daySecs - 1)
	for day := -92591; day <= 92591; day++ {
		later, err := civil.Of(day * daySecs)
		if later != next(c) || err != api.OK {
			t.Fatalf("Of(%d) = %v, %d; want %v", day*daySecs, later, err, next(c))
		}
		c, _ = civil.Of(day*daySecs + daySecs - 1)
	}
}

// ordered holds valid civil times, each of them later than the one before.
func ordered() []api.Civil {
	return []api.Civil{
		{Year: 1600, Month: 1, Day: 1}, {Year: 1600, Month: 1, Day: 1, Nano: 1}, {Year: 1600, Month: 1, Day: 1, Nano: 999999999}, {Year: 1600, Month: 1, Day: 1, Sec: 1}, {Year: 1600, Month: 1, Day: 1, Sec: 9, Nano: 999999999}, {Year: 1600, Month: 1, Day: 1, Sec: 10},
		{Year: 1600, Month: 1, Day: 1, Minute: 9, Sec: 59}, {Year: 1600, Month: 1, Day: 1, Minute: 10}, {Year: 1600, Month: 1, Day: 1, Hour: 9}, {Year: 1600, Month: 1, Day: 1, Hour: 10}, {Year: 1600, Month: 1, Day: 9, Hour: 23}, {Year: 1600, Month: 1, Day: 10},
		{Year: 1600, Month: 9, Day: 30}, {Year: 1600, Month: 10, Day: 1}, {Year: 1899, Month: 12, Day: 31, Hour: 23, Minute: 59, Sec: 59, Nano: 999999999}, {Year: 1900, Month: 1, Day: 1}, {Year: 1999, Month: 12, Day: 31}, {Year: 2000, Month: 1, Day: 1}, {Year: 2200, Month: 12, Day: 31},
	}
}

// P5.7
func TestTexts(t *testing.T) {
	list := append(valid(), ordered()...)
	for _, sec := range seconds() {
		c := reference(sec)
		c.Nano = (sec%1000 + 1000) * 500000
		list = append(list, c)
	}
	for _, c := range list {
		if back, err := civil.Parse(civil.Text(c)); back != c || err != api.OK {
			t.Errorf("Parse(%q) = %v, %d; want %v", civil.Text(c), back, err, c)
		}
	}
	for i, later := range ordered() {
		for _, earlier := range ordered()[:i] {
			if civil.Text(earlier) >= civil.Text(later) {
				t.Errorf("the text %q is not less than %q", civil.Text(earlier), civil.Text(later))
			}
		}
	}
}

// P5.8
func TestCalendarRepeats(t *testing.T) {
	// The seconds within MaxSec of 1900 are those of about 507 years.
	for day := -92592; day+146097 <= 92592; day++ {
		sec := day*daySecs + 4711
		c, err := civil.Of(sec)
		later, laterErr := civil.Of(sec + cycleSecs)
		c.Year += 400
		if c != later || err != api.OK || laterErr != api.OK {
			t.Fatalf("after 400 years: %v, %d; want %v", later, laterErr, c)
		}
		if civil.Weekday(sec) != civil.Weekday(sec+cycleSecs) {
			t.Fatalf("after 400 years: the day %d of the week; want %d", civil.Weekday(sec+cycleSecs), civil.Weekday(sec))
		}
	}
	for year := -801; year <= 2400; year++ {
		for month := range 14 {
			if civil.MonthDays(year, month) != civil.MonthDays(year+400, month) {
				t.Errorf("MonthDays(%d, %d) is not that of 400 years later", year, month)
			}
		}
	}
}
