package carry

import (
	"math"
	"testing"

	"epact/api"
	"epact/basis"
	"epact/sample"
)

// Forms are written in short.
var (
	set  = sample.Set
	form = sample.Form
	with = sample.With
	odd  = sample.Odd
)

const top = api.MaxTick

var (
	below = api.Bound{Inf: -1}
	above = api.Bound{Inf: 1}
)

func num(n int) api.Bound { return api.Bound{N: n} }

var (
	days  = form(1, set(0, 0))
	weeks = form(7, set(0, 6))
	work  = form(7, set(0, 4))
	alone = form(7, set(0, 0), nil, nil)
	one   = with(api.Form{}, odd(3, 5, 6))
	two   = with(api.Form{}, odd(3, 5, 6), odd(7, 20, 29))
)

// P25.1
func TestLowHigh(t *testing.T) {
	month, _ := basis.New().Form("month")
	for _, x := range []struct {
		f         api.Form
		m         int64
		low, high api.Bound
	}{
		{weeks, 1, num(1), num(13)}, {weeks, 0, num(-6), num(6)}, {weeks, -1, num(-13), num(-1)}, {work, 1, num(3), num(11)}, {month, 1, num(1), num(61)}, {month, 12, num(335), num(396)}, {days, 0, num(0), num(0)},
		{alone, 1, num(7), num(0)}, {alone, 3, num(7), num(7)}, {alone, 4, num(14), num(7)}, {alone, -1, num(0), num(-7)}, {alone, -3, num(-7), num(-7)},
		{one, 0, num(-1), num(1)}, {one, 1, num(top), num(1)}, {one, -1, num(-1), num(-top)}, {one, -9, num(-1), num(-top)}, {two, 0, num(-9), num(9)}, {two, 1, num(14), num(9)}, {two, 4, num(14), num(24)}, {two, 5, num(top), num(24)}, {two, -4, num(-24), num(-14)}, {two, -5, num(-24), num(-top)}, {two, math.MaxInt64, num(top), num(24)}, {two, math.MinInt64, num(-24), num(-top)},
		{api.Form{}, 0, num(top), num(-top)}, {api.Form{}, math.MinInt64, num(top), num(-top)}, {api.Form{}, math.MaxInt64, num(top), num(-top)},
		{days, top, num(top), above}, {days, top - 1, num(top - 1), num(top - 1)}, {days, top + 1, num(top), above}, {days, -top, below, num(-top)}, {days, 1 - top, num(1 - top), num(1 - top)}, {days, -top - 1, below, num(-top)}, {days, math.MaxInt64, num(top), above}, {days, math.MinInt64, below, num(-top)},
		{form(1, nil, set(0, 0)), 2*top - 2, num(top - 1), num(top - 1)}, {form(1, nil, set(0, 0)), 2*top - 1, num(top), num(top - 1)}, {form(1, nil, set(0, 0)), 2 * top, num(top), above}, {form(1, nil, set(0, 0)), 2*top + 1, num(top), above},
		{form(top, set(0, 0)), 1, num(top), above}, {form(top, set(0, 0)), 5, num(top), above}, {form(top, set(0, 0)), -5, below, num(-top)}, {form(top, set(0, 1)), 1, num(top - 1), above}, {form(top, set(0, 0)), top, num(top), above},
		{with(weeks, odd(1, 7, 7)), 1, num(1), num(13)}, {with(weeks, odd(1, 9, 9), odd(2, 11, 11)), 1, num(1), num(16)}, {with(weeks, odd(1, 9, 9), odd(2, 11, 11)), 2, num(5), num(23)}, {with(weeks, odd(1), odd(2)), 2, num(8), num(20)},
	} {
		if b := Low(x.f, x.m); b != x.low {
			t.Error("low", x.f.Period, x.f.Count, x.m, b, x.low)
		}
		if b := High(x.f, x.m); b != x.high {
			t.Error("high", x.f.Period, x.f.Count, x.m, b, x.high)
		}
	}
}

// P25.2
func TestTicks(t *testing.T) {
	for _, x := range []struct {
		f         api.Form
		r         api.Range
		low, high api.Bound
	}{
		{weeks, api.Range{Low: 1, HasLow: true}, num(1), above}, {weeks, api.Range{High: 1, HasHigh: true}, below, num(13)}, {weeks, api.Range{}, below, above}, {work, api.Range{Low: 1, High: 2, HasLow: true, HasHigh: true}, num(3), num(18)}, {one, api.Range{}, below, above}, {one, api.Range{Low: 1, High: 1, HasLow: true, HasHigh: true}, num(top), num(1)}, {weeks, api.Range{Low: 2, High: 1, HasLow: true, HasHigh: true}, num(8), num(13)}, {weeks, api.Range{Low: 9, High: 9}, below, above},
	} {
		if low, high := Ticks(x.f, x.r); low != x.low || high != x.high {
			t.Error(x, low, high)
		}
	}
}

// P25.3
func TestRange(t *testing.T) {
	both := func(low, high int64) api.Range { return api.Range{Low: low, High: high, HasLow: true, HasHigh: true} }
	for _, x := range []struct {
		f         api.Form
		low, high api.Bound
		r         api.Range
		ok        bool
		wrong     api.Errno
	}{
		{weeks, num(1), num(6), both(0, 1), true, 0}, {weeks, num(7), num(13), both(1, 2), true, 0}, {weeks, num(-6), num(6), both(-1, 1), true, 0}, {work, num(1), num(2), both(0, 0), true, 0}, {work, num(5), num(2), both(1, 0), true, 0},
		{weeks, below, num(6), api.Range{High: 1, HasHigh: true}, true, 0}, {weeks, num(7), above, api.Range{Low: 1, HasLow: true}, true, 0}, {weeks, below, above, api.Range{}, true, 0}, {api.Form{}, below, above, api.Range{}, true, 0}, {api.Form{}, num(0), above, api.Range{}, false, 0}, {api.Form{}, below, num(0), api.Range{}, false, 0},
		{days, num(-top - 1), num(top + 1), api.Range{}, true, 0}, {days, num(-top), num(top), both(-top, top), true, 0}, {days, num(top + 1), num(-top - 1), both(top, -top), true, 0}, {days, num(math.MaxInt), num(math.MinInt), both(top, -top), true, 0}, {days, num(math.MinInt), num(math.MaxInt), api.Range{}, true, 0},
		{one, num(-1), num(1), both(0, 0), true, 0}, {one, num(2), num(9), api.Range{}, false, 0}, {one, num(-9), num(-2), api.Range{}, false, 0}, {one, num(1), above, api.Range{HasLow: true}, true, 0}, {one, num(1), num(top + 1), api.Range{HasLow: true}, true, 0}, {one, num(2), num(top + 1), api.Range{}, false, 0},
		{weeks, above, num(6), api.Range{}, false, api.ErrArg}, {weeks, num(1), below, api.Range{}, false, api.ErrArg}, {weeks, api.Bound{Inf: -1, N: 1}, num(6), api.Range{}, false, api.ErrArg}, {weeks, num(1), api.Bound{Inf: 2}, api.Range{}, false, api.ErrArg}, {api.Form{}, above, below, api.Range{}, false, api.ErrArg},
	} {
		if r, ok, e := Range(x.f, x.low, x.high); r != x.r || ok != x.ok || e != x.wrong {
			t.Error(x, r, ok, e)
		}
	}
}

// R1: forms that are none do no harm.
func TestWrongForms(t *testing.T) {
	for _, f := range []api.Form{{Count: 5}, {Count: -5}, {Count: math.MaxInt, Period: math.MaxInt}, form(0, set(0, 1)), form(-4, set(3, 1)), form(3, nil, set(5, 9), set(1, 2)), with(days, odd(3), odd(1))} {
		Low(f, 3)
		High(f, math.MinInt64)
		Ticks(f, api.Range{HasLow: true, HasHigh: true})
		Range(f, num(0), num(5))
	}
}
