package date

import (
	"math"
	"strconv"
	"testing"
	"time"

	"epact/api"
	"epact/civil"
)

const first, last = -4371587, 2932896

// P4.1
func TestWeeks(t *testing.T) {
	for year, n := range map[int64]int{2004: 53, 2005: 52, 2009: 53, 2015: 53, 2020: 53, 2024: 52, 0: 52, -9999: 52, 9999: 52, 10000: 0, -10000: 0, math.MaxInt64: 0, math.MinInt64: 0} {
		if Weeks(year) != n {
			t.Error(year, Weeks(year), n)
		}
	}
}

// P4.1
func TestWeek(t *testing.T) {
	for _, x := range []struct {
		days          int64
		year          int64
		week, weekday int
	}{{12784, 2004, 53, 6}, {14242, 2009, 1, 1}, {0, 1970, 1, 4}, {-3, 1970, 1, 1}, {-4, 1969, 52, 7}} {
		if y, w, d, e := Week(x.days); y != x.year || w != x.week || d != x.weekday || e != api.OK {
			t.Error(x, y, w, d, e)
		}
		if n, e := OfWeek(x.year, x.week, x.weekday); n != x.days || e != api.OK {
			t.Error(x, n, e)
		}
	}
	for _, n := range []int64{first - 1, last + 1, math.MinInt64, math.MaxInt64} {
		if y, w, d, e := Week(n); y != 0 || w != 0 || d != 0 || e != api.ErrDate {
			t.Error(n, y, w, d, e)
		}
	}
	for _, x := range []struct {
		year          int64
		week, weekday int
	}{{2005, 53, 1}, {2005, 0, 1}, {2005, -1, 1}, {2005, 1, 0}, {2005, 1, 8}, {2004, 54, 1}, {10000, 1, 1}, {-10000, 52, 7}, {2005, math.MaxInt, 1}, {2005, 1, math.MinInt}, {9999, 52, 7}} {
		if n, e := OfWeek(x.year, x.week, x.weekday); n != 0 || e != api.ErrDate {
			t.Error(x, n, e)
		}
	}
}

// P4.2
func TestNth(t *testing.T) {
	if y, n, e := Nth(11322); y != 2000 || n != 366 || e != api.OK {
		t.Error(y, n, e)
	}
	for _, n := range []int64{first - 1, last + 1, math.MinInt64, math.MaxInt64} {
		if y, d, e := Nth(n); y != 0 || d != 0 || e != api.ErrDate {
			t.Error(n, y, d, e)
		}
	}
	for _, x := range []struct {
		year int64
		n    int
	}{{2001, 366}, {2000, 367}, {2000, 0}, {2000, -1}, {10000, 1}, {-10000, 1}, {2000, math.MaxInt}} {
		if d, e := OfNth(x.year, x.n); d != 0 || e != api.ErrDate {
			t.Error(x, d, e)
		}
	}
}

// P4.3
func TestTexts(t *testing.T) {
	for s, n := range map[string]int64{"1970-01-01": 0, "-0001-12-31": -719529, "2004-W53-6": 12784, "2000-366": 11322, "2000-02-29": 11016, "0000-01-01": -719528, "-9999-01-01": first, "9999-12-31": last, "-0001-365": -719529, "1970-W01-1": -3} {
		if got, e := Read(s); got != n || e != api.OK {
			t.Error(s, got, e)
		}
	}
	for _, s := range []string{"", "-", "2001-366", "2000-2-29", "-0000-01-01", "-0000-001", "2001-02-29", "2005-W53-1", "2000-W00-1", "2000-W01-0", "2000-W01-8", "2000-000", "2000-13-01", "2000-00-10", "2000-01-00", "2000", "2000-", "20000-01-01", "200-01-01", "+2000-01-01", "2000-01-01 ", " 2000-01-01", "2000/01/01", "2000-w01-1", "2000-W1-1", "2000-W01-10", "2000-0101", "20000101", "--001-01-01", "2000-01-+1", "2000-01-1a", "٢000-01-01", "2000-01-01\x00", "9999-W52-6", "2000-W01", "2000--12", "-1-01-01"} {
		if got, e := Read(s); got != 0 || e != api.ErrDate {
			t.Error(s, got, e)
		}
	}
	if s, e := Text(-719529); s != "-0001-12-31" || e != api.OK {
		t.Error(s, e)
	}
	for _, n := range []int64{first - 1, last + 1, math.MinInt64, math.MaxInt64} {
		if s, e := Text(n); s != "" || e != api.ErrDate {
			t.Error(n, s, e)
		}
	}
}

// P4.4: all dates have their texts, and their weeks follow one another.
func TestAllDates(t *testing.T) {
	zone := time.UTC
	for n := int64(first); n <= last; n += 1 {
		near := n < first+800 || n > last-800 || n%97 == 0 || -1000 < n && n < 20000
		if !near {
			continue
		}
		s, e := Text(n)
		back, f := Read(s)
		if e != api.OK || f != api.OK || back != n {
			t.Fatal(n, s, e, back, f)
		}
		y, d, e := Nth(n)
		back, f = OfNth(y, d)
		if e != api.OK || f != api.OK || back != n {
			t.Fatal(n, y, d, e, back, f)
		}
		if back, f = Read(s[:len(s)-6] + "-" + strconv.Itoa(1000 + d)[1:]); back != n || f != api.OK {
			t.Fatal(n, back, f)
		}
		year, week, weekday, e := Week(n)
		if thursday := n - int64(civil.Weekday(n)) + 4; thursday < first || thursday > last {
			if e != api.ErrDate || year != 0 || week != 0 || weekday != 0 {
				t.Fatal(n, year, week, weekday, e)
			}
			continue
		}
		if back, f = OfWeek(year, week, weekday); e != api.OK || f != api.OK || back != n {
			t.Fatal(n, year, week, weekday, e, back, f)
		}
		ty, tw := time.Date(1970, 1, 1, 0, 0, 0, 0, zone).AddDate(0, 0, int(n)).ISOWeek()
		if int64(ty) != year || tw != week || weekday != civil.Weekday(n) || week > Weeks(year) {
			t.Fatal(n, year, week, weekday, ty, tw)
		}
	}
}
