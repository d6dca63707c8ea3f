package civil

import (
	"math"
	"testing"
	"time"

	"epact/api"
)

const first, last = -4371587, 2932896

// P3.1
func TestLeapLength(t *testing.T) {
	for year, leap := range map[int64]bool{0: true, 4: true, 100: false, 400: true, 1900: false, 2000: true, 2023: false, 2024: true, -1: false, -4: true, -100: false, -400: true, math.MaxInt64: false, math.MinInt64: true, -10000: true, 10000: true} {
		if Leap(year) != leap {
			t.Error(year)
		}
	}
	for month, n := range []int{0, 31, 28, 31, 30, 31, 30, 31, 31, 30, 31, 30, 31, 0} {
		if Length(2023, month) != n {
			t.Error(month, Length(2023, month))
		}
	}
	if Length(2024, 2) != 29 || Length(-100004, 2) != 29 || Length(1900, 2) != 28 || Length(2024, 3) != 31 || Length(2024, 1) != 31 {
		t.Error("lengths")
	}
	for _, month := range []int{0, -1, 13, math.MinInt, math.MaxInt} {
		if Length(2024, month) != 0 {
			t.Error(month)
		}
	}
}

// P3.2
func TestDays(t *testing.T) {
	for _, x := range []struct {
		year       int64
		month, day int
		days       int64
		wrong      api.Errno
	}{
		{1970, 1, 1, 0, 0}, {2000, 2, 29, 11016, 0}, {1, 1, 1, -719162, 0}, {-9999, 1, 1, first, 0}, {9999, 12, 31, last, 0}, {1969, 12, 31, -1, 0}, {0, 1, 1, -719528, 0},
		{1900, 2, 29, 0, api.ErrDate}, {2024, 0, 1, 0, api.ErrDate}, {2024, 13, 1, 0, api.ErrDate}, {2024, 1, 0, 0, api.ErrDate}, {2024, 4, 31, 0, api.ErrDate}, {2024, 1, -1, 0, api.ErrDate},
		{10000, 1, 1, 0, api.ErrDate}, {-10000, 12, 31, 0, api.ErrDate}, {math.MaxInt64, 1, 1, 0, api.ErrDate}, {math.MinInt64, 1, 1, 0, api.ErrDate}, {2024, math.MaxInt, math.MaxInt, 0, api.ErrDate},
	} {
		if n, e := Days(x.year, x.month, x.day); n != x.days || e != x.wrong {
			t.Error(x, n, e)
		}
	}
	for _, n := range []int64{first - 1, last + 1, math.MaxInt64, math.MinInt64} {
		if y, m, d, e := Date(n); y != 0 || m != 0 || d != 0 || e != api.ErrDate {
			t.Error(n, y, m, d, e)
		}
	}
	if y, m, d, e := Date(-1); y != 1969 || m != 12 || d != 31 || e != api.OK {
		t.Error(y, m, d, e)
	}
}

// P3.2
func TestWeekday(t *testing.T) {
	for n, w := range map[int64]int{0: 4, -719162: 1, 1: 5, 3: 7, 4: 1, -3: 1, -4: 7, math.MaxInt64: int((math.MaxInt64%7+3)%7) + 1, math.MinInt64: 7 - int((-(math.MinInt64 + 4))%7)} {
		if Weekday(n) != w {
			t.Error(n, Weekday(n), w)
		}
	}
	for _, n := range []int64{math.MinInt64, -100, -8, -1, 0, 6, 100, math.MaxInt64 - 1} {
		if Weekday(n)%7+1 != Weekday(n+1) {
			t.Error(n)
		}
	}
}

// P3.3: all dates follow one another, as the library's do.
func TestAllDates(t *testing.T) {
	day := time.Date(-9999, 1, 1, 0, 0, 0, 0, time.UTC)
	for n := int64(first); n <= last; n++ {
		y, m, d, e := Date(n)
		back, f := Days(y, m, d)
		if e != api.OK || f != api.OK || back != n {
			t.Fatal(n, y, m, d, e, back, f)
		}
		if n%5 == 0 {
			if at := day.AddDate(0, 0, int(n-first)); int64(at.Year()) != y || int(at.Month()) != m || at.Day() != d || (int(at.Weekday())+6)%7+1 != Weekday(n) {
				t.Fatal(n, at, y, m, d)
			}
		}
	}
}
