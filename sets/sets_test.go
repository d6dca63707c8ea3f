package sets

import (
	"math"
	"testing"

	"epact/api"
	"epact/canon"
	"epact/gran"
	"epact/sample"
)

// Forms are written in short.
var (
	set   = sample.Set
	form  = sample.Form
	with  = sample.With
	odd   = sample.Odd
	equal = sample.Equal
	some  = sample.Some
)

const top = api.MaxTick

var (
	days     = form(1, set(0, 0))
	weeks    = form(7, set(0, 6))
	mondays  = some(7, 0)
	tuesdays = some(7, 1)
	cut      = with(mondays, odd(7))
	one      = with(api.Form{}, odd(7, 7, 7))
)

// P18.1
func TestAlike(t *testing.T) {
	for i, x := range []struct {
		a, b  api.Form
		same  bool
		wrong api.Errno
	}{
		{mondays, tuesdays, true, 0}, {days, mondays, true, 0}, {mondays, cut, true, 0}, {api.Form{}, weeks, true, 0}, {one, days, true, 0}, {one, weeks, false, 0}, {one, with(api.Form{}, odd(7, 7, 8)), false, 0}, {one, with(api.Form{}, odd(8, 7, 8)), true, 0},
		{days, form(1, set(1, 1)), false, 0}, {days, weeks, false, api.ErrShape}, {weeks, days, false, api.ErrShape}, {days, form(7, nil), true, 0}, {with(days, odd(3)), with(days, odd(3, 3, 3)), true, 0}, {form(2, set(0, 0), set(1, 1)), days, true, 0},
		{with(mondays, odd(9, 9, 9)), with(tuesdays, odd(9, 9, 10)), false, 0}, {with(mondays, odd(9, 9, 9)), with(tuesdays, odd(9)), true, 0}, {with(mondays, odd(9, 9, 9)), days, true, 0}, {with(mondays, odd(9, 9, 10)), days, false, 0},
		{some(5998, 1), mondays, false, api.ErrLong}, {some(6000, 1), some(3000, 2), true, 0}, {form(top, set(0, 0), nil), form(5, nil, nil, set(1, 1)), false, api.ErrRange}, {form(5, nil, nil, set(1, 1)), form(top, set(0, 0), nil), false, api.ErrShape}, {form(5, set(0, 0)), form(top, nil, set(0, 0)), false, api.ErrShape},
		{form(1<<39, set(0, 0), nil), form(1<<39, nil, set(top, top)), true, 0}, {form(1<<39, set(0, 0), nil), form(1<<40, nil, set(top-9, top-9), nil, nil), true, 0}, {form(1<<39, set(top, top), nil), form(1<<40, nil, nil, set(1, 1), nil), false, api.ErrRange}, {form(1<<40, set(0, 0), nil, nil, nil), form(1<<39, nil, set(top-1, top-1)), false, api.ErrRange},
		{form(1<<39, set(top, top)), one, false, 0}, {with(api.Form{}, odd(top, 1, 1)), weeks, false, 0}, {with(api.Form{}, odd(top)), weeks, true, 0},
	} {
		if same, e := Alike(x.a, x.b); same != x.same || e != x.wrong {
			t.Error(i, x, same, e)
		}
	}
}

// P18.2
func TestOperations(t *testing.T) {
	type op func(a, b api.Form) (api.Form, api.Errno)
	spread := form(22, set(0, 0, 2, 2, 4, 4, 6, 6, 8, 8, 10, 10, 12, 12, 14, 14, 16, 16, 18, 18, 20, 20))
	wide := func(from int) api.Form {
		f := api.Form{Period: 22 * 6000, Count: 6000}
		for i := range 6000 {
			var l []api.Span
			for _, s := range spread.Core[0] {
				l = append(l, api.Span{From: s.From + 22*i, To: s.To + 22*i})
			}
			f.Core = append(f.Core, nil)
			if i%2 == from && i != 4 {
				f.Core[i] = l[:10+from]
			}
		}
		return f
	}
	for i, x := range []struct {
		do      op
		a, b, g api.Form
		wrong   api.Errno
	}{
		{Union, mondays, tuesdays, some(7, 0, 1), 0}, {Cut, mondays, tuesdays, api.Form{}, 0}, {Less, mondays, tuesdays, mondays, 0}, {Cut, mondays, cut, cut, 0}, {Cut, cut, mondays, cut, 0}, {Less, mondays, cut, one, 0}, {Less, cut, mondays, api.Form{}, 0}, {Union, cut, mondays, mondays, 0}, {Union, cut, one, mondays, 0},
		{Less, days, one, with(days, odd(7)), 0}, {Less, one, days, api.Form{}, 0}, {Cut, days, one, one, 0}, {Union, one, days, days, 0}, {Union, one, with(api.Form{}, odd(9, 8, 10)), with(api.Form{}, odd(7, 7, 7), odd(9, 8, 10)), 0}, {Union, api.Form{}, api.Form{}, api.Form{}, 0}, {Union, mondays, mondays, mondays, 0}, {Less, days, some(2, 0), form(2, nil, set(1, 1)), 0}, {Union, some(2, 0), some(2, 1), days, 0},
		{Union, days, weeks, api.Form{}, api.ErrShape}, {Cut, days, form(1, set(1, 1)), api.Form{}, api.ErrShape}, {Less, one, weeks, api.Form{}, api.ErrShape}, {Union, some(5998, 1), mondays, api.Form{}, api.ErrLong}, {Cut, form(top, set(0, 0), nil), form(5, nil, nil, set(1, 1)), api.Form{}, api.ErrRange},
		{Union, some(7, 3), form(7, nil, nil, nil, nil, set(1, 1), nil, nil), api.Form{}, api.ErrShape}, {Cut, some(7, 3), form(7, nil, nil, nil, nil, set(1, 1), nil, nil), api.Form{}, 0}, {Union, one, with(api.Form{}, odd(9, 6, 6)), api.Form{}, api.ErrShape}, {Union, one, with(api.Form{}, odd(9, 7, 7)), api.Form{}, api.ErrShape},
		{Union, wide(0), wide(1), api.Form{}, api.ErrLong}, {Less, with(mondays, odd(1, 1, 1)), tuesdays, with(mondays, odd(1)), api.ErrArg},
	} {
		g, e := x.do(x.a, x.b)
		if x.wrong == api.ErrArg { // there is such a granule in both, so it is taken away
			x.g, x.wrong = mondays, api.OK
		}
		if e != x.wrong || !equal(g, x.g) || e == api.OK && (gran.Right(g) != api.OK || !canon.Is(g)) {
			t.Error(i, g.Period, g.Count, len(g.Odd), e)
		}
	}
}

// P18.2: the greatest forms are done in time, and too many exceptions are told.
func TestGreat(t *testing.T) {
	var l api.Form
	for i := range 6000 {
		l.Odd = append(l.Odd, odd(i, i, i))
	}
	g, e := Less(days, l)
	if e != api.OK || len(g.Odd) != 6000 {
		t.Error(len(g.Odd), e)
	}
	if back, e := Union(g, l); e != api.OK || !equal(back, days) {
		t.Error(e)
	}
	more := with(api.Form{}, odd(9000, 9000, 9000))
	if g, e := Less(g, more); e != api.ErrLong || g.Count != 0 {
		t.Error(e)
	}
	if g, e := Union(l, more); e != api.ErrLong || len(g.Odd) != 0 {
		t.Error(e)
	}
}

// R1, R3
func TestWrongAndOwn(t *testing.T) {
	for _, f := range []api.Form{{Count: 5}, {Count: -5}, {Count: math.MaxInt, Period: math.MaxInt}, form(0, set(0, 1)), form(-4, set(3, 1)), form(3, nil, set(5, 9), set(1, 2)), with(days, odd(3), odd(1))} {
		for _, g := range []api.Form{f, weeks, one} {
			Alike(f, g)
			Alike(g, f)
			Union(f, g)
			Cut(g, f)
			Less(f, g)
		}
	}
	a := with(form(7, set(0, 6)), odd(1, 8, 9))
	for _, do := range []func() (api.Form, api.Errno){
		func() (api.Form, api.Errno) { return Union(a, a) }, func() (api.Form, api.Errno) { return Cut(a, a) }, func() (api.Form, api.Errno) { return Less(a, api.Form{}) }, func() (api.Form, api.Errno) { return Union(api.Form{}, a) },
	} {
		g, e := do()
		if e != api.OK {
			t.Error(e)
		}
		g.Core[0][0].From, g.Odd[0].Ticks[0].From = -99, -99
	}
	if !equal(a, with(form(7, set(0, 6)), odd(1, 8, 9))) {
		t.Error(a)
	}
}
