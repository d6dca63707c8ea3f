package size

import (
	"math"
	"testing"

	"epact/api"
	"epact/basis"
	"epact/sample"
)

// Forms are written in short.
var (
	set  = sample.Set
	form = sample.Form
	with = sample.With
	odd  = sample.Odd
)

const top = api.MaxTick

var (
	days  = form(1, set(0, 0))
	weeks = form(7, set(0, 6))
	work  = form(7, set(0, 4))
	one   = with(api.Form{}, odd(3, 5, 6))
	two   = with(api.Form{}, odd(3, 5, 6), odd(7, 20, 29))
	alone = form(7, set(0, 0), nil, nil)
)

type ask func(f api.Form, n int) (int, bool, api.Errno)

func check(t *testing.T, what string, do ask, f api.Form, n, want int, some bool, wrong api.Errno) {
	t.Helper()
	if got, ok, e := do(f, n); got != want || ok != some || e != wrong {
		t.Error(what, f.Period, f.Count, n, got, ok, e)
	}
}

// P22.1
func TestLeastMost(t *testing.T) {
	month, _ := basis.New().Form("month")
	far := with(form(9, set(0, 3)), odd(0, -3, 3), odd(2, 18, 23))
	for _, x := range []struct {
		f           api.Form
		k           int
		least, most int
		some        bool
		wrong       api.Errno
	}{
		{weeks, 1, 1, 13, true, 0}, {weeks, 0, -6, 6, true, 0}, {weeks, -1, -13, -1, true, 0}, {weeks, 3, 15, 27, true, 0}, {work, 1, 3, 11, true, 0}, {days, 5, 5, 5, true, 0}, {days, top, top, top, true, 0}, {month, 2, 29, 91, true, 0}, {month, 1, 1, 61, true, 0}, {month, -1, -61, -1, true, 0},
		{one, 0, -1, 1, true, 0}, {one, 1, 0, 0, false, 0}, {two, 4, 14, 24, true, 0}, {two, -4, -24, -14, true, 0}, {two, 0, -9, 9, true, 0}, {two, 3, 0, 0, false, 0}, {api.Form{}, 0, 0, 0, false, 0}, {alone, 3, 7, 7, true, 0}, {alone, 1, 0, 0, false, 0}, {alone, -6, -14, -14, true, 0},
		{far, 0, -6, 6, true, 0}, {far, 1, 3, 15, true, 0}, {far, 2, 12, 26, true, 0}, {with(weeks, odd(1)), 1, 1, 13, true, 0}, {with(alone, odd(1, 1, 2)), 1, 1, 2, true, 0}, {with(alone, odd(1, 1, 2)), 2, 5, 6, true, 0}, {form(14, set(0, 6), set(7, 13)), 1, 1, 13, true, 0},
		{days, top + 1, 0, 0, false, api.ErrArg}, {days, -top - 1, 0, 0, false, api.ErrArg}, {api.Form{}, math.MinInt, 0, 0, false, api.ErrArg}, {one, math.MaxInt, 0, 0, false, api.ErrArg},
		{form(top, set(0, 0)), top, 0, 0, false, api.ErrOver}, {form(top, set(0, 0)), -top, 0, 0, false, api.ErrOver}, {form(top, set(0, 0)), 1<<23 - 1, top * (1<<23 - 1), top * (1<<23 - 1), true, 0}, {form(top, set(0, 0)), 1 << 23, 0, 0, false, api.ErrOver}, {form(top, set(0, 0)), -1 << 23, math.MinInt, math.MinInt, true, 0}, {form(top, set(5, 5)), -1 << 23, math.MinInt, math.MinInt, true, 0}, {form(top, set(-5, -5)), -1 << 23, 0, 0, false, api.ErrOver}, {form(top, set(0, 0), nil), 1<<24 - 1, 0, 0, false, 0},
		{with(api.Form{}, odd(-top, 0, 0), odd(top, 1, 1)), top, 0, 0, false, 0},
	} {
		check(t, "least", Least, x.f, x.k, x.least, x.some, x.wrong)
		check(t, "most", Most, x.f, x.k, x.most, x.some, x.wrong)
	}
}

// P22.2
func TestDownUp(t *testing.T) {
	month, _ := basis.New().Form("month")
	for _, x := range []struct {
		f         api.Form
		d         int
		down, up  int
		some, any bool
		wrong     api.Errno
	}{
		{weeks, 6, 1, 0, true, true, 0}, {weeks, 7, 1, 1, true, true, 0}, {weeks, 0, 0, 0, true, true, 0}, {weeks, 1, 1, 0, true, true, 0}, {weeks, -6, 0, -1, true, true, 0}, {weeks, -7, -1, -1, true, true, 0}, {weeks, 13, 2, 1, true, true, 0}, {weeks, 14, 2, 2, true, true, 0}, {days, top, top, top, true, true, 0}, {days, -top, -top, -top, true, true, 0},
		{work, 2, 0, 0, true, true, 0}, {work, 3, 1, 0, true, true, 0}, {work, 5, 1, 1, true, true, 0}, {month, 29, 2, 0, true, true, 0}, {month, 28, 1, 0, true, true, 0}, {month, 31, 2, 1, true, true, 0}, {month, 61, 3, 1, true, true, 0}, {month, 62, 3, 2, true, true, 0},
		{one, -1, 0, 0, true, true, 0}, {one, -2, 0, 0, false, true, 0}, {one, 1, 0, 0, true, true, 0}, {one, 2, 0, 0, true, false, 0}, {one, top, 0, 0, true, false, 0}, {one, -top, 0, 0, false, true, 0}, {two, 13, 0, 4, true, true, 0}, {two, 14, 4, 4, true, true, 0}, {two, 24, 4, 4, true, true, 0}, {two, 25, 4, 0, true, false, 0}, {two, -15, -4, -4, true, true, 0}, {two, -24, -4, -4, true, true, 0}, {two, -25, 0, -4, false, true, 0},
		{api.Form{}, 0, 0, 0, false, false, 0}, {alone, 6, 0, 3, true, true, 0}, {alone, 7, 3, 3, true, true, 0}, {alone, 8, 3, 6, true, true, 0},
		{days, top + 1, 0, 0, false, false, api.ErrArg}, {days, -top - 1, 0, 0, false, false, api.ErrArg}, {api.Form{}, math.MinInt, 0, 0, false, false, api.ErrArg},
		{form(1, nil, set(0, 0)), top, 2 * top, 2 * top, true, true, 0}, {form(top, set(-top, -1)), top, 1, 1, true, true, 0}, {form(top, set(-top, -1)), -top, -1, -1, true, true, 0}, {form(top, set(-top, -1)), top - 1, 1, 0, true, true, 0},
		{with(weeks, odd(1, 7, 7)), 5, 1, 0, true, true, 0}, {with(weeks, odd(1), odd(2), odd(3, 21, 21)), 14, 2, 2, true, true, 0}, {with(weeks, odd(1, 7, 20), odd(2, 21, 21), odd(3, 22, 22), odd(4, 23, 34)), 1, 1, 0, true, true, 0}, {with(weeks, odd(1, 7, 20), odd(2, 21, 21), odd(3, 22, 22), odd(4, 23, 34)), 2, 2, 0, true, true, 0}, {with(weeks, odd(1, 7, 20), odd(2, 21, 21), odd(3, 22, 22), odd(4, 23, 34)), 13, 3, 0, true, true, 0}, {with(weeks, odd(1, 7, 20), odd(2, 21, 21), odd(3, 22, 22), odd(4, 23, 34)), 14, 3, 1, true, true, 0},
	} {
		check(t, "down", Down, x.f, x.d, x.down, x.some, x.wrong)
		check(t, "up", Up, x.f, x.d, x.up, x.any, x.wrong)
	}
}

// The greatest forms are done in time.
func TestGreat(t *testing.T) {
	f := form(36000, make([][]api.Span, 6000)...)
	f.Core[0] = set(0, 0)
	for i := range 6000 {
		f.Odd = append(f.Odd, odd(6000*i))
	}
	g := days
	for i := range 6000 {
		g.Odd = append(g.Odd, odd(i))
	}
	for range 20 {
		check(t, "down", Down, f, 72001, 12000, true, 0)
		check(t, "up", Up, f, 72001, 18000, true, 0)
		check(t, "least", Least, f, 6000, 36000, true, 0)
		check(t, "down", Down, g, 9, 9, true, 0)
		check(t, "up", Up, g, 9, 9, true, 0)
	}
}

// R1, R3
func TestWrongForms(t *testing.T) {
	for _, f := range []api.Form{{Count: 5}, {Count: -5}, {Count: math.MaxInt, Period: math.MaxInt}, form(0, set(0, 1)), form(-4, set(3, 1)), form(3, nil, set(5, 9), set(1, 2)), with(days, odd(3), odd(1))} {
		for _, do := range []ask{Least, Most, Down, Up} {
			do(f, 3)
			do(f, -top)
		}
	}
	f := form(14, set(0, 6), set(7, 13))
	Least(f, 1)
	if f.Count != 2 || f.Core[0][0].To != 6 {
		t.Error(f)
	}
}
