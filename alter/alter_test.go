package alter

import (
	"math"
	"slices"
	"testing"

	"epact/api"
	"epact/canon"
	"epact/gran"
	"epact/sample"
)

// Forms are written in short.
var (
	set   = sample.Set
	form  = sample.Form
	with  = sample.With
	equal = sample.Equal
)

const top = api.MaxTick

// row is a form of count granules, each of them as long as said, without gaps.
func row(from, count, long int) api.Form {
	f := api.Form{Period: count * long, Count: count}
	for i := range count {
		f.Core = append(f.Core, set(from+i*long, from+i*long+long-1))
	}
	return f
}

var (
	days  = form(1, set(0, 0))
	weeks = form(7, set(0, 6))
	work  = form(7, set(0, 4))
	pairs = form(7, set(0, 0), set(1, 1), set(2, 2), set(3, 3), set(4, 4)) // business days
)

// P14.1
func TestParts(t *testing.T) {
	for _, x := range []struct {
		fine, coarse api.Form
		starts       []int
		parts        int
		wrong        api.Errno
	}{
		{days, weeks, []int{0}, 7, 0}, {days, days, []int{0}, 1, 0}, {pairs, work, []int{0}, 5, 0}, {days, work, nil, 0, api.ErrShape}, {pairs, weeks, nil, 0, api.ErrShape},
		{form(1, set(5, 5)), form(10, set(0, 2), set(3, 9)), []int{-5, -2}, 10, 0}, {weeks, days, nil, 0, api.ErrShape}, {weeks, form(21, set(7, 20), set(21, 27)), []int{1, 3}, 3, 0},
		{form(2, set(0, 1)), form(3, set(0, 2)), nil, 0, api.ErrShape}, {form(4, set(0, 1), set(2, 3)), form(6, set(-2, 1), set(2, 3)), []int{-1, 1, 2, 4}, 6, 0},
		{form(4, set(0, 1), set(2, 3)), form(6, set(-2, 3)), []int{-1, 2}, 6, 0}, {days, form(4, set(0, 3, 5, 5)), nil, 0, api.ErrShape},
		{with(days, api.Granule{Index: 1, Ticks: set(1, 1)}), weeks, nil, 0, api.ErrShape}, {days, with(weeks, api.Granule{Index: 1}), nil, 0, api.ErrShape}, {api.Form{}, weeks, nil, 0, api.ErrShape}, {days, api.Form{}, nil, 0, api.ErrShape},
		{days, form(7, set(0, 6), nil), nil, 0, api.ErrShape}, {form(1, set(0, 0), nil), weeks, nil, 0, api.ErrShape}, {days, api.Form{Odd: []api.Granule{{Ticks: set(0, 0)}}}, nil, 0, api.ErrShape},
		{form(top, set(0, 1)), form(top-1, set(0, 1)), nil, 0, api.ErrLong}, {days, row(0, 1, api.MaxSpans+1), nil, 0, api.ErrLong}, {row(0, 6000, 1), form(6001, set(0, 0)), nil, 0, api.ErrLong},
		{form(7, set(0, 0), set(1, 2)), form(6001, set(0, 0)), nil, 0, api.ErrShape}, {form(6001, set(0, 0)), form(2, set(0, 0)), nil, 0, api.ErrLong}, {form(6000, set(0, 0)), form(1, set(0, 0)), nil, 0, api.ErrShape},
		{days, row(top-3, 1, 4), nil, 0, api.ErrRange}, {days, row(top-7, 1, 4), []int{top - 7}, 4, 0}, {form(top, set(0, 1)), form(top, set(0, 1)), nil, 0, api.ErrRange},
		{days, row(top-8, 1, 4), []int{top - 8}, 4, 0}, {form(1, set(-5, -5)), row(top-8, 1, 4), nil, 0, api.ErrShape}, {form(1, set(5, 5)), row(top-8, 1, 4), []int{top - 13}, 4, 0}, {days, row(-top, 1, 4), []int{-top}, 4, 0},
	} {
		starts, parts, e := Parts(x.fine, x.coarse)
		if !slices.Equal(starts, x.starts) || parts != x.parts || e != x.wrong {
			t.Error(x.fine.Period, x.fine.Count, x.coarse.Period, x.coarse.Count, starts, parts, e, x.wrong)
		}
	}
}

// P14.2
func TestForm(t *testing.T) {
	for _, x := range []struct {
		fine, coarse api.Form
		k, l, m      int
		g            api.Form
		wrong        api.Errno
	}{
		{days, weeks, 1, 0, 4, form(29, set(0, 7), set(8, 14), set(15, 21), set(22, 28)), 0}, {days, weeks, 1, 3, 4, form(29, set(0, 6), set(7, 13), set(14, 20), set(21, 28)), 0},
		{days, row(0, 1, 30), 1, 0, 2, form(61, set(0, 30), set(31, 60)), 0}, {days, weeks, 0, 0, 4, weeks, 0}, {days, weeks, -6, 0, 1, days, 0}, {days, weeks, 7, 0, 1, form(14, set(0, 13)), 0},
		{pairs, work, 1, 0, 1, form(42, set(0, 4, 7, 7), set(8, 11, 14, 15), set(16, 18, 21, 23), set(24, 25, 28, 31), set(32, 32, 35, 39)), 0},
		{days, weeks, -7, 0, 4, api.Form{}, api.ErrShape}, {days, weeks, -6000, 3, 4, api.Form{}, api.ErrShape}, {days, row(0, 2, 3), -3, 1, 2, api.Form{}, api.ErrShape}, {days, work, 1, 0, 4, api.Form{}, api.ErrShape},
		{days, weeks, 1, 4, 4, api.Form{}, api.ErrArg}, {days, weeks, 1, -1, 4, api.Form{}, api.ErrArg}, {days, weeks, 1, 0, 0, api.Form{}, api.ErrArg}, {days, weeks, 1, 0, 6001, api.Form{}, api.ErrArg}, {days, weeks, 6001, 0, 4, api.Form{}, api.ErrArg}, {days, weeks, -6001, 0, 4, api.Form{}, api.ErrArg}, {days, work, 1, math.MinInt, math.MinInt, api.Form{}, api.ErrArg},
		{days, row(0, 6, 1), 1, 0, 5999, api.Form{}, api.ErrLong}, {days, row(0, 5, 1), -1, 0, 1201, api.Form{}, api.ErrLong}, {days, row(0, 5, 1), -1, 0, 1200, api.Form{}, api.ErrShape},
		{row(0, 7, 1), row(0, 1, 7), 1, 0, 1000, api.Form{}, api.ErrLong}, {days, weeks, 6000, 0, 6, form(6042, set(0, 6006), set(6007, 6013), set(6014, 6020), set(6021, 6027), set(6028, 6034), set(6035, 6041)), 0},
		{days, row(0, 1, 60000), 1, 0, 1, api.Form{}, api.ErrLong}, {days, row(0, 1, 59999), 1, 0, 1, row(0, 1, 60000), 0}, {days, row(top-90, 1, 4), 1, 0, 2, form(9, set(top-90, top-86), set(top-85, top-82)), 0}, {days, row(top-20, 1, 4), 10, 0, 2, form(18, set(top-20, top-7), set(top-6, top-3)), 0}, {days, row(top-20, 1, 4), 10, 0, 4, api.Form{}, api.ErrRange},
		{form(1<<38, set(0, 0)), form(1<<38, set(0, 0)), 1, 0, 4, api.Form{}, api.ErrRange}, {form(1<<37, set(0, 0)), form(1<<37, set(0, 0)), 5, 0, 4, api.Form{}, api.ErrRange}, {form(1<<37, set(0, 0)), form(1<<37, set(0, 0)), 4, 0, 4, form(1<<40, set(0, 0, 1<<37, 1<<37, 1<<38, 1<<38, 3<<37, 3<<37, 1<<39, 1<<39), set(5<<37, 5<<37), set(3<<38, 3<<38), set(7<<37, 7<<37)), 0},
	} {
		g, e := Form(x.fine, x.coarse, x.k, x.l, x.m)
		if e != x.wrong || !equal(g, x.g) || e == api.OK && (gran.Right(g) != api.OK || !canon.Is(g)) {
			t.Error(x.coarse.Period, x.coarse.Count, x.k, x.l, x.m, g.Period, g.Count, e)
		}
	}
}

// P14.2: the greatest count is allowed, and done in time.
func TestGreat(t *testing.T) {
	if g, e := Form(days, row(0, 1, 9), 1, 5999, 6000); e != api.OK || g.Count != 6000 || g.Period != 54001 {
		t.Error(g.Count, g.Period, e)
	}
	if g, e := Form(days, row(0, 6000, 2), -1, 17, 6000); e != api.OK || g.Count != 6000 || g.Period != 11999 {
		t.Error(g.Count, g.Period, e)
	}
}

// R1: forms that are none do no harm.
func TestWrongForms(t *testing.T) {
	for _, f := range []api.Form{{Count: 5}, {Count: -5}, {Count: math.MaxInt, Period: math.MaxInt}, form(0, set(0, 1)), form(-4, set(3, 1)), form(3, set(0, 9), set(5, 1), set(-1, 40)), form(math.MaxInt, set(0, 1)), {Period: 1, Count: 7000, Core: make([][]api.Span, 7000)}} {
		for _, g := range []api.Form{f, days, weeks} {
			Parts(f, g)
			Parts(g, f)
			Form(f, g, 1, 0, 2)
			Form(g, f, -1, 0, 2)
		}
	}
}
