package choose

import (
	"math"
	"testing"

	"epact/api"
	"epact/canon"
	"epact/gran"
	"epact/sample"
)

// Forms are written in short.
var (
	set   = sample.Set
	form  = sample.Form
	with  = sample.With
	odd   = sample.Odd
	equal = sample.Equal
	some  = sample.Some
)

const top = api.MaxTick

var (
	days   = form(1, set(0, 0))
	weeks  = form(7, set(0, 6))
	months = form(30, set(0, 29))
	one    = with(api.Form{}, odd(3, 5, 20))
)

// P17.1
func TestChoose(t *testing.T) {
	down := func(k, l int) func(a, b api.Form) (api.Form, api.Errno) {
		return func(a, b api.Form) (api.Form, api.Errno) { return Down(a, b, k, l) }
	}
	meet := func(k, l int) func(a, b api.Form) (api.Form, api.Errno) {
		return func(a, b api.Form) (api.Form, api.Errno) { return Meet(a, b, k, l) }
	}
	firsts := with(api.Form{Period: 210, Count: 30, Core: make([][]api.Span, 30)})
	for _, i := range []int{0, 4, 8, 12, 17, 21, 25} {
		firsts.Core[i] = set(7*i, 7*i+6)
	}
	for i, x := range []struct {
		do      func(a, b api.Form) (api.Form, api.Errno)
		a, b, g api.Form
		wrong   api.Errno
	}{
		{down(1, 1), days, months, some(30, 0), 0}, {down(-1, 1), days, months, some(30, 29), 0}, {down(2, 2), days, months, some(30, 1, 2), 0}, {down(-2, 6000), days, months, some(30, 28, 29), 0}, {down(29, 5), days, months, some(30, 28, 29), 0}, {down(31, 1), days, months, api.Form{}, 0},
		{down(-31, 1), days, months, api.Form{}, 0}, {down(-31, 2), days, months, some(30, 0), 0}, {down(-6000, 6000), days, months, days, 0}, {down(-6000, 6000), days, days, days, 0},
		{down(1, 6000), days, form(7, set(0, 4)), some(7, 0, 1, 2, 3, 4), 0}, {down(1, 1), weeks, days, api.Form{}, 0}, {down(1, 1), months, months, months, 0}, {down(1, 1), days, with(weeks, odd(1, 8, 9)), with(some(7, 0), odd(7), odd(8, 8, 8)), 0},
		{down(1, 1), with(days, odd(7)), weeks, with(some(7, 0), odd(7), odd(8, 8, 8)), 0}, {down(2, 1), days, one, with(api.Form{}, odd(6, 6, 6)), 0}, {down(1, 1), one, weeks, api.Form{}, 0}, {down(1, 1), one, months, one, 0},
		{meet(1, 1), weeks, months, firsts, 0}, {meet(1, 1), days, months, some(30, 0), 0}, {meet(1, 6000), weeks, months, weeks, 0}, {meet(2, 1), days, one, with(api.Form{}, odd(6, 6, 6)), 0}, {meet(-1, 1), weeks, one, with(api.Form{}, odd(2, 14, 20)), 0}, {meet(1, 1), one, weeks, one, 0}, {meet(4, 1), weeks, days, api.Form{}, 0},
		{Up, weeks, months, api.Form{}, 0}, {Up, months, weeks, months, 0}, {Up, weeks, one, api.Form{}, 0}, {Up, months, one, with(api.Form{}, odd(0, 0, 29)), 0}, {Up, weeks, some(14, 3, 4), form(14, set(0, 6), nil), 0}, {Up, weeks, with(some(14, 3, 4), odd(3), odd(4), odd(9, 9, 9)), with(form(14, set(0, 6), nil), odd(0), odd(1, 7, 13)), 0},
		{down(0, 1), days, months, api.Form{}, api.ErrArg}, {down(1, 0), days, months, api.Form{}, api.ErrArg}, {down(6001, 1), days, months, api.Form{}, api.ErrArg}, {down(-6001, 1), days, months, api.Form{}, api.ErrArg}, {down(1, 6001), days, months, api.Form{}, api.ErrArg}, {down(1, -1), days, form(6001, set(0, 0)), api.Form{}, api.ErrArg},
		{meet(0, 1), days, months, api.Form{}, api.ErrArg}, {meet(1, 0), days, months, api.Form{}, api.ErrArg}, {meet(math.MinInt, 1), days, months, api.Form{}, api.ErrArg}, {meet(1, math.MaxInt), days, months, api.Form{}, api.ErrArg},
		{down(1, 1), days, form(6001, set(0, 0)), api.Form{}, api.ErrLong}, {meet(1, 1), days, form(6001, set(0, 0)), api.Form{}, api.ErrLong}, {Up, days, form(6001, set(0, 0)), api.Form{}, api.ErrLong}, {Up, form(top, set(0, 0)), form(5, set(0, 0)), api.Form{}, api.ErrRange},
		{Up, form(100000, set(0, 99999)), days, api.Form{}, api.ErrLong}, {down(1, 1), form(100000, set(0, 99999)), days, api.Form{}, api.ErrLong}, {Up, form(top/2, set(top, top)), form(top, set(0, 0)), api.Form{}, api.ErrRange},
	} {
		g, e := x.do(x.a, x.b)
		if e != x.wrong || !equal(g, x.g) || e == api.OK && (gran.Right(g) != api.OK || !canon.Is(g)) {
			t.Error(i, x.a, x.b, g, e)
		}
	}
}

// P17.1: great forms are done in time.
func TestGreat(t *testing.T) {
	long := form(6000, set(0, 5999))
	g, e := Down(days, long, -1, 1)
	if e != api.OK || g.Count != 6000 || gran.Size(g) != 1 || len(g.Core[5999]) != 1 {
		t.Error(g.Count, e)
	}
	if g, e = Meet(days, long, 5, 2); e != api.OK || g.Count != 6000 || gran.Size(g) != 2 {
		t.Error(g.Count, e)
	}
	if g, e = Down(with(days, odd(7)), long, 2, 5000); e != api.OK || gran.Size(g) != 5001 {
		t.Error(gran.Size(g), e)
	}
}

// R1, R3
func TestWrongAndOwn(t *testing.T) {
	for _, f := range []api.Form{{Count: 5}, {Count: -5}, {Count: math.MaxInt, Period: math.MaxInt}, form(0, set(0, 1)), form(-4, set(3, 1)), form(3, nil, set(5, 9), set(1, 2)), with(days, odd(3), odd(1))} {
		for _, g := range []api.Form{f, weeks, one} {
			Down(f, g, 1, 1)
			Meet(g, f, 1, 1)
			Up(f, g)
			Up(g, f)
		}
	}
	a := with(form(7, set(0, 6)), odd(1, 8, 9))
	g, _ := Down(a, a, 1, 1)
	g.Core[0][0].From, g.Odd[0].Ticks[0].From = -99, -99
	if !equal(a, with(form(7, set(0, 6)), odd(1, 8, 9))) {
		t.Error(a)
	}
}
