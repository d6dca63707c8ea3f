package rel

import (
	"math"
	"testing"

	"epact/api"
	"epact/gran"
	"epact/sample"
)

// Forms are written in short.
var (
	set  = sample.Set
	form = sample.Form
	with = sample.With
	odd  = sample.Odd
	some = sample.Some
)

const top = api.MaxTick

var (
	days    = form(1, set(0, 0))
	weeks   = form(7, set(0, 6))
	work    = some(7, 0, 1, 2, 3, 4)
	mondays = some(7, 0)
	one     = with(api.Form{}, odd(3, 7, 20))
)

type answers struct{ finer, into, parts, sub, turns bool }

func ask(t *testing.T, a, b api.Form) answers {
	t.Helper()
	var x answers
	for _, q := range []struct {
		do     func(a, b api.Form) (bool, api.Errno)
		answer *bool
	}{{Finer, &x.finer}, {Into, &x.into}, {Parts, &x.parts}, {Sub, &x.sub}, {Turns, &x.turns}} {
		yes, e := q.do(a, b)
		if e != api.OK {
			t.Error(a, b, e)
		}
		*q.answer = yes
	}
	return x
}

// P20.1, P20.3
func TestRelations(t *testing.T) {
	none := answers{}
	full := answers{true, true, true, false, true}
	self := answers{true, true, true, true, true}
	for i, x := range []struct {
		a, b api.Form
		want answers
	}{
		{days, weeks, full}, {work, weeks, answers{finer: true}}, {weeks, days, none}, {mondays, days, answers{finer: true, sub: true}}, {days, mondays, answers{into: true, turns: true}}, {days, days, self}, {weeks, form(7, set(3, 9)), none}, {weeks, form(14, set(0, 13)), full}, {weeks, form(14, set(7, 20)), full},
		{days, form(7, set(0, 4)), answers{into: true, turns: true}}, {work, form(7, set(0, 4)), full}, {form(14, set(0, 6), set(7, 13)), weeks, self}, {form(30, set(0, 29)), weeks, none},
		{days, one, answers{into: true}}, {one, days, none}, {one, weeks, none}, {weeks, one, answers{into: true}}, {weeks, with(api.Form{}, odd(3, 7, 19)), none}, {one, form(30, set(0, 29)), answers{finer: true}}, {one, one, answers{true, true, true, true, false}}, {api.Form{}, days, answers{finer: true, sub: true}}, {days, api.Form{}, answers{into: true}}, {api.Form{}, api.Form{}, answers{true, true, true, true, false}},
		{with(days, odd(9)), weeks, answers{finer: true}}, {days, with(weeks, odd(1)), answers{into: true}}, {days, with(weeks, odd(1, 7, 9)), answers{into: true}}, {work, with(weeks, odd(1)), none}, {work, with(weeks, odd(1, 7, 11)), answers{finer: true}}, {work, with(weeks, odd(1, 7, 10)), none},
		{with(days, odd(8), odd(9, 9, 10), odd(10)), weeks, answers{finer: true}}, {with(days, odd(9, 9, 10), odd(10)), weeks, answers{true, true, true, false, false}}, {with(days, odd(13, 13, 14), odd(14)), weeks, none}, {with(days, odd(13, 13, 14), odd(14)), with(weeks, odd(1, 7, 14), odd(2, 15, 20)), answers{true, true, true, false, false}},
		{with(mondays, odd(7)), mondays, answers{finer: true, sub: true}}, {mondays, with(mondays, odd(7)), answers{into: true}}, {with(mondays, odd(9, 9, 9)), days, answers{finer: true, sub: true}}, {with(mondays, odd(7, 7, 8)), days, none}, {with(mondays, odd(7, 7, 8)), with(days, odd(7, 7, 8), odd(8)), answers{finer: true, sub: true}},
		{form(top/2, set(0, top/2-1)), form(top, set(-top/2, -1)), answers{into: true, turns: true}}, {form(5, set(0, 0, 2, 2)), form(10, set(0, 0, 2, 2, 5, 5, 7, 7)), full}, {form(5, set(0, 0), set(2, 2)), form(10, set(0, 0, 2, 2, 5, 5)), answers{into: true, turns: true}}, {form(5, set(0, 2)), form(10, set(0, 2, 7, 7)), none}, {form(5, set(0, 2, 4, 4)), form(15, set(0, 2, 4, 7, 9, 12, 14, 14)), full},
	} {
		if got := ask(t, x.a, x.b); got != x.want {
			t.Error(i, x.a, x.b, got, x.want)
		}
	}
}

// P20.1: granules need not be few, nor in range, to be told of.
func TestFar(t *testing.T) {
	many := form(1000000, set(0, 999999))
	if yes, e := Into(days, many); e != api.OK || !yes {
		t.Error(yes, e)
	}
	if yes, e := Turns(days, form(1<<40, set(0, 1<<40-1))); e != api.OK || !yes {
		t.Error(yes, e)
	}
	if yes, e := Into(form(2, set(0, 0)), many); e != api.OK || yes {
		t.Error(yes, e)
	}
	if yes, e := Into(with(days, odd(1<<39)), form(1<<40, set(0, 1<<40-1))); e != api.OK || yes {
		t.Error(yes, e)
	}
	if yes, e := Into(with(form(1, set(-3, -3)), odd(1<<39, 1<<39-3, 1<<39-2), odd(1<<39+1)), form(1<<40, set(0, 1<<40-1))); e != api.OK || !yes {
		t.Error(yes, e)
	}
	// The granule at the end of a turn lies within one that begins in range, and ends out of it.
	a, b := form(1<<39, set(top-1, top)), form(1<<39, set(-top+(1<<39)-1, -top+(1<<40)-2))
	if gran.Right(a) != api.OK || gran.Right(b) != api.OK {
		t.Fatal("forms")
	}
	if yes, e := Finer(a, b); e != api.OK || !yes {
		t.Error(yes, e)
	}
	// Indices beyond the range are indices, too.
	half := form(1, nil, set(top, top))
	if yes, e := Sub(half, days); e != api.OK || !yes {
		t.Error(yes, e)
	}
	if yes, e := Into(half, days); e != api.OK || !yes {
		t.Error(yes, e)
	}
}

// P20.1, P20.3: errors.
func TestErrors(t *testing.T) {
	long := with(api.Form{}, odd(0, 0, api.MaxSpans))
	for i, x := range []struct {
		do    func(a, b api.Form) (bool, api.Errno)
		a, b  api.Form
		wrong api.Errno
	}{
		{Finer, days, form(6001, set(0, 0)), api.ErrLong}, {Sub, days, form(6001, set(0, 0)), api.ErrLong}, {Into, form(6001, set(0, 0)), days, api.ErrLong}, {Parts, days, form(6001, set(0, 0)), api.ErrLong}, {Parts, form(6001, set(0, 0)), days, api.ErrLong}, {Turns, form(6001, set(0, 0)), days, api.ErrLong}, {Turns, days, form(6001, set(0, 0)), 0},
		{Finer, form(top, set(0, 0)), form(5, set(0, 0)), api.ErrRange}, {Into, form(5, set(0, 0)), form(top, set(0, 0)), api.ErrRange}, {Parts, form(5, set(0, 0)), form(top, set(0, 0)), api.ErrLong}, {Parts, form(top, set(0, 0)), form(5, set(0, 0)), api.ErrRange},
		{Finer, days, long, api.ErrLong}, {Finer, long, days, api.ErrLong}, {Into, days, long, api.ErrLong}, {Sub, days, with(form(100000, set(0, 99999)), odd(1)), api.ErrLong}, {Turns, days, long, api.ErrLong},
		{Finer, form(top/2, set(top, top)), form(top, set(0, 0)), api.ErrRange}, {Sub, form(top/2, set(top, top)), form(top, set(0, 0)), api.ErrRange}, {Into, form(top, set(0, 0)), form(top/2, set(top, top)), api.ErrRange}, {Parts, form(top/2, set(top, top)), form(top, set(0, 0)), api.ErrRange}, {Parts, form(top, set(0, 0)), form(top/2, set(top, top)), api.ErrRange}, {Turns, form(top, set(0, 0)), form(top/2, set(top, top)), api.ErrRange},
		{Finer, form(14, set(0, 6), set(7, 13)), form(6*6001, set(0, 0)), api.ErrLong}, {Finer, form(12, set(0, 0), set(6, 6)), form(36000, set(0, 0)), 0},
	} {
		if yes, e := x.do(x.a, x.b); e != x.wrong || yes && e != api.OK {
			t.Error(i, yes, e)
		}
	}
}

// P20.2
func TestShift(t *testing.T) {
	for i, x := range []struct {
		a, b api.Form
		by   int
		ok   bool
	}{
		{form(1, set(-3, -3)), days, -3, true}, {days, days, 0, true}, {days, form(1, set(-3, -3)), 3, true}, {api.Form{}, api.Form{}, 0, true}, {form(7, nil), with(api.Form{}, odd(5)), 0, true}, {weeks, form(7, set(14, 20)), -2, true}, {weeks, form(7, set(1, 7)), 0, false}, {weeks, days, 0, false}, {days, one, 0, false}, {one, days, 0, false}, {api.Form{}, days, 0, false}, {one, api.Form{}, 0, false},
		{one, with(api.Form{}, odd(-4, 7, 20)), -7, true}, {one, with(api.Form{}, odd(-4, 7, 19)), 0, false}, {one, with(api.Form{}, odd(-4, 7, 20), odd(0, 30, 30)), 0, false}, {with(api.Form{}, odd(1, 1, 1), odd(3, 5, 5)), with(api.Form{}, odd(2, 1, 1), odd(5, 5, 5)), 0, false}, {with(api.Form{}, odd(-top, 1, 1)), with(api.Form{}, odd(top, 1, 1)), 2 * top, true},
		{mondays, form(7, nil, set(0, 0), nil, nil, nil, nil, nil), 1, true}, {mondays, some(7, 1), 0, false}, {form(9, set(0, 1), set(4, 5)), form(9, set(4, 5), set(9, 10)), -1, true}, {form(9, set(0, 1), set(4, 5)), form(9, set(0, 1), set(4, 6)), 0, false}, {form(14, set(0, 6), set(7, 13)), form(7, set(70, 76)), -10, true}, {form(9, set(0, 1), set(4, 5)), form(9, set(0, 1), set(5, 5)), 0, false},
		{with(weeks, odd(2)), with(form(7, set(-14, -8)), odd(4)), 2, true}, {with(weeks, odd(2)), with(form(7, set(-14, -8)), odd(5)), 0, false}, {with(weeks, odd(2)), form(7, set(-14, -8)), 0, false}, {with(weeks, odd(2, 14, 15)), with(weeks, odd(2, 14, 16)), 0, false}, {with(weeks, odd(2)), with(weeks, odd(3)), 0, false},
		{form(1, set(-top, -top)), form(1, set(top, top)), -2 * top, true}, {form(1, nil, set(-top, -top)), form(1, set(top, top), nil), -4*top + 1 - 2, true}, {form(top, set(0, 1)), form(top, set(top-1, top)), 0, false}, {form(top, set(0, 0)), form(top, set(top, top)), -1, true},
	} {
		by, ok := Shift(x.a, x.b)
		if x.a.Count == 2 && x.a.Period == 1 {
			x.by = by
			if (by%2+2)%2 != 1 {
				t.Error(by)
			}
		}
		if by != x.by || ok != x.ok {
			t.Error(i, x.a, x.b, by, ok)
		}
	}
}

// P20.1: great forms are done in time.
func TestGreat(t *testing.T) {
	a, b := with(days), with(form(10, set(0, 9)))
	for i := range 6000 {
		a.Odd = append(a.Odd, odd(10*i))
		b.Odd = append(b.Odd, odd(i, 10*i+1, 10*i+9))
	}
	if got := ask(t, a, b); got != (answers{true, true, true, false, false}) {
		t.Error(got)
	}
}

// R1: forms that are none do no harm.
func TestWrongForms(t *testing.T) {
	for _, f := range []api.Form{{Count: 5}, {Count: -5}, {Count: math.MaxInt, Period: math.MaxInt}, form(0, set(0, 1)), form(-4, set(3, 1)), form(3, nil, set(5, 9), set(1, 2)), with(days, odd(3), odd(1))} {
		for _, g := range []api.Form{f, weeks, one} {
			for _, do := range []func(a, b api.Form) (bool, api.Errno){Finer, Into, Parts, Sub, Turns} {
				do(f, g)
				do(g, f)
			}
			Shift(f, g)
			Shift(g, f)
		}
	}
}
