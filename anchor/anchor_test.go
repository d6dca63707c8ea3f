package anchor

import (
	"math"
	"slices"
	"testing"

	"epact/api"
	"epact/canon"
	"epact/gran"
	"epact/sample"
)

// Forms are written in short.
var (
	set   = sample.Set
	form  = sample.Form
	with  = sample.With
	odd   = sample.Odd
	equal = sample.Equal
)

const top = api.MaxTick

// empty is so many sets without ticks.
func empty(count int) [][]api.Span { return make([][]api.Span, count) }

var (
	days    = form(1, set(0, 0))
	weeks   = form(7, set(0, 6))
	mondays = form(7, set(0, 0), nil, nil, nil, nil, nil, nil)
	one     = with(api.Form{}, odd(3, 5, 20))
)

// P16.1
func TestRounds(t *testing.T) {
	for _, x := range []struct {
		a, b         api.Form
		count, ticks int
		wrong        api.Errno
	}{
		{days, mondays, 7, 7, 0}, {mondays, days, 7, 7, 0}, {weeks, days, 1, 7, 0}, {days, weeks, 1, 1, 0}, {one, weeks, 1, 7, 0}, {weeks, one, 1, 7, 0}, {one, api.Form{}, 0, 0, 0},
		{form(5, empty(6)...), form(7, empty(4)...), 12, 10, 0}, {form(5, empty(75)...), form(7, empty(80)...), 1200, 80, 0}, {form(5, empty(5999)...), form(7, empty(2)...), 0, 0, api.ErrLong}, {form(5, empty(3000)...), form(7, empty(16)...), 6000, 10, 0},
		{form(top, empty(3)...), form(1, empty(2)...), 0, 0, api.ErrRange}, {form(1, empty(2)...), form(top, empty(3)...), 6, 3, 0}, {form(top/2, empty(3)...), form(1, empty(2)...), 6, top, 0}, {form(top, empty(5999)...), form(1, empty(2)...), 0, 0, api.ErrLong},
	} {
		if count, ticks, e := Rounds(x.a, x.b); count != x.count || ticks != x.ticks || e != x.wrong {
			t.Error(x.a.Period, x.a.Count, x.b.Period, count, ticks, e)
		}
	}
}

// P16.2
func TestPart(t *testing.T) {
	far := form(1<<39, set(0, 0))
	for _, x := range []struct {
		b, a  api.Form
		part  bool
		wrong api.Errno
	}{
		{mondays, days, true, 0}, {days, mondays, false, 0}, {weeks, days, false, 0}, {days, days, true, 0}, {api.Form{}, days, true, 0}, {api.Form{}, api.Form{}, true, 0}, {one, one, true, 0}, {one, api.Form{}, false, 0}, {days, one, false, 0}, {one, days, false, 0},
		{with(api.Form{}, odd(3, 3, 3)), days, true, 0}, {with(api.Form{}, odd(3)), weeks, true, 0}, {with(mondays, odd(7)), days, true, 0}, {with(mondays, odd(7)), mondays, true, 0}, {mondays, with(mondays, odd(7)), false, 0}, {mondays, with(days, odd(7)), false, 0}, {mondays, with(days, odd(8)), true, 0},
		{with(mondays, odd(9, 9, 9)), days, true, 0}, {with(mondays, odd(9, 9, 10)), days, false, 0}, {with(mondays, odd(9, 9, 10)), with(days, odd(9, 9, 9), odd(10)), false, 0}, {with(mondays, odd(9, 9, 10)), with(days, odd(9, 9, 10), odd(10)), true, 0},
		{form(8, set(0, 0), nil, nil, nil, nil, nil, nil), days, false, 0}, {form(14, set(0, 0), nil), form(8, set(0, 0)), false, 0}, {form(14, set(0, 0), nil), form(7, set(0, 0)), true, 0},
		{form(7, set(0, 0), nil), form(5, append(empty(5998), set(0, 0))...), false, api.ErrLong}, {form(top, set(0, 0)), form(5, set(0, 0), nil), false, api.ErrRange}, {form(5, set(0, 0)), form(top, set(0, 0), nil), false, 0},
		{far, form(1<<39, set(top, top), nil), false, 0}, {form(1<<39, set(top, top)), form(1<<40, nil, nil), false, api.ErrRange}, {far, form(1, set(0, 0), set(1, 1)), false, api.ErrForm}, {form(1<<39, set(5, 5)), form(1<<37, append(empty(1), set(1<<39-3, 1<<39-3))...), false, 0},
		{form(2, set(0, 0), nil, set(1, 1)), form(1<<39, set(top-5, top-5)), false, api.ErrRange}, {form(2, nil, nil, set(1, 1)), form(1<<39, set(top-5, top-5)), false, api.ErrRange}, {form(2, nil, set(1, 1), nil), form(1<<38, set(0, 0)), false, 0},
		{with(api.Form{}, odd(top, 0, 0)), weeks, false, 0}, {form(top, set(0, 0)), with(api.Form{}, odd(0, 0, 0)), false, 0},
	} {
		if part, e := Part(x.b, x.a); part != x.part || e != x.wrong {
			t.Error(x.b, x.a, part, e)
		}
	}
}

// P16.3
func TestAt(t *testing.T) {
	cut := with(mondays, odd(7))
	for _, x := range []struct {
		a, b  api.Form
		i     int
		l     []api.Span
		wrong api.Errno
	}{
		{days, mondays, 0, set(0, 6), 0}, {days, mondays, 3, nil, 0}, {days, mondays, 7, set(7, 13), 0}, {days, cut, 0, set(0, 13), 0}, {days, cut, 7, nil, 0}, {days, mondays, -7, set(-7, -1), 0},
		{with(days, odd(3)), mondays, 0, set(0, 2, 4, 6), 0}, {with(days, odd(3, 3, 4), odd(4), odd(20)), cut, 0, set(0, 13), 0}, {one, mondays, 0, set(5, 20), 0}, {api.Form{}, mondays, 0, nil, 0},
		{days, one, 3, nil, api.ErrShape}, {days, one, 4, nil, 0}, {days, mondays, top + 1, nil, api.ErrRange}, {days, mondays, math.MinInt, nil, api.ErrRange}, {days, weeks, top / 6, nil, api.ErrRange}, {days, days, top, nil, api.ErrShape}, {weeks, form(1, set(0, 0), nil), top / 3 / 2 * 2, nil, api.ErrRange},
		{days, with(api.Form{}, odd(0, 0, 0), odd(top, 5, 5)), 0, set(0, top-1), 0}, {with(days, odd(5), odd(top/2)), with(api.Form{}, odd(0, 0, 0), odd(top, 5, 5)), 0, set(0, 4, 6, top/2-1, top/2+1, top-1), 0}, {one, with(api.Form{}, odd(-top, 0, 0), odd(top, 5, 5)), -top, set(5, 20), 0},
		{weeks, with(api.Form{}, odd(0, 0, 0), odd(top, 5, 5)), 0, nil, api.ErrRange}, {form(2, set(0, 0), set(1, 1), nil), with(api.Form{}, odd(1, 0, 0), odd(3000, 5, 5)), 1, set(1, 1999), 0}, {form(1, set(5, 5)), with(api.Form{}, odd(-top, 0, 0), odd(top-4, 5, 5)), -top, set(5-top, top), 0}, {form(1, set(5, 5)), with(api.Form{}, odd(-top, 0, 0), odd(top-3, 5, 5)), -top, nil, api.ErrForm},
	} {
		if gran.Right(x.b) != api.OK {
			x.wrong = api.ErrForm
		}
		if x.wrong == api.ErrForm {
			continue
		}
		if l, e := At(x.a, x.b, x.i); !slices.Equal(l, x.l) || e != x.wrong {
			t.Error(x, l, e)
		}
	}
}

// P16.4
func TestForm(t *testing.T) {
	sevenths := form(7, set(0, 6), nil, nil, nil, nil, nil, nil)
	for _, x := range []struct {
		a, b, g api.Form
		wrong   api.Errno
	}{
		{days, mondays, sevenths, 0}, {days, days, days, 0}, {weeks, weeks, weeks, 0}, {mondays, mondays, mondays, 0}, {days, with(mondays, odd(7)), with(sevenths, odd(0, 0, 13), odd(7)), 0}, {with(days, odd(3)), mondays, with(sevenths, odd(0, 0, 2, 4, 6)), 0},
		{days, with(mondays, odd(3, 3, 3)), with(sevenths, odd(0, 0, 2), odd(3, 3, 6)), 0}, {days, with(mondays, odd(-7), odd(0), odd(7), odd(9, 9, 9)), with(sevenths, odd(-14, -14, 8), odd(-7), odd(0), odd(7), odd(9, 9, 13)), 0}, {days, form(10, nil, nil, set(2, 2), nil, nil, nil, set(6, 6), nil, nil, nil), form(10, nil, nil, set(2, 5), nil, nil, nil, set(6, 11), nil, nil, nil), 0},
		{days, one, api.Form{}, api.ErrShape}, {one, mondays, api.Form{}, api.ErrShape}, {days, api.Form{}, api.Form{}, api.ErrShape}, {days, form(7, nil), api.Form{}, api.ErrShape}, {one, one, api.Form{}, api.ErrShape}, {mondays, days, api.Form{}, api.ErrShape}, {days, weeks, api.Form{}, api.ErrShape}, {days, with(mondays, odd(3, 3, 4)), api.Form{}, api.ErrShape},
		{form(7, empty(4001)...), form(7, append(empty(1), set(0, 0))...), api.Form{}, api.ErrLong}, {form(7, nil), form(7, set(0, 0)), api.Form{}, api.ErrShape}, {days, form(5, append(empty(5999), set(0, 0))...), api.Form{}, api.ErrShape},
		{with(days, odd(top-8, top-8, top-6), odd(top-7), odd(top-6)), with(days, odd(top-8, top-8, top-6), odd(top-7), odd(top-6)), with(days, odd(top-8, top-8, top-6), odd(top-7), odd(top-6)), 0},
	} {
		g, e := Form(x.a, x.b)
		if e != x.wrong || !equal(g, x.g) || e == api.OK && (gran.Right(g) != api.OK || !canon.Is(g)) {
			t.Error(x, g, e)
		}
	}
}

// P16.4: what is collected may be too long; the greatest forms are done in time.
func TestGreat(t *testing.T) {
	b := form(6000, append([][]api.Span{set(0, 0)}, empty(5999)...)...)
	for i := range 6000 {
		b.Odd = append(b.Odd, odd(6000*i))
	}
	b.Odd = b.Odd[1:]
	g, e := Form(days, b)
	if e != api.OK || len(g.Odd) != 6000 || !slices.Equal(g.Odd[0].Ticks, set(0, 6000*6000-1)) {
		t.Error(g.Count, len(g.Odd), e)
	}
	var spread []api.Span
	for i := range 11 {
		spread = append(spread, api.Span{From: 2 * i, To: 2 * i})
	}
	wide := form(22, spread)
	many := form(22*6000, append([][]api.Span{spread}, empty(5999)...)...)
	if g, e := Form(wide, many); e != api.ErrLong || g.Core != nil {
		t.Error(e)
	}
	wide.Core[0], many.Core[0] = spread[:10], spread[:10]
	if g, e := Form(wide, many); e != api.OK || gran.Size(g) != 60000 {
		t.Error(e)
	}
}

// R1, R3
func TestWrongAndOwn(t *testing.T) {
	for _, f := range []api.Form{{Count: 5}, {Count: -5}, {Count: math.MaxInt, Period: math.MaxInt}, {Count: math.MinInt}, form(0, set(0, 1)), form(-4, set(3, 1)), form(3, nil, set(5, 9), set(1, 2)), with(days, odd(3), odd(1))} {
		for _, g := range []api.Form{f, weeks, one} {
			Rounds(f, g)
			Rounds(g, f)
			Part(f, g)
			Part(g, f)
			At(f, g, 0)
			At(g, f, 0)
			Form(f, g)
			Form(g, f)
		}
	}
	a := with(form(7, set(0, 6)), odd(1, 8, 9))
	g, _ := Form(a, a)
	g.Core[0][0].From, g.Odd[0].Ticks[0].From = -99, -99
	l, _ := At(a, a, 1)
	l[0].From = -99
	if !equal(a, with(form(7, set(0, 6)), odd(1, 8, 9))) {
		t.Error(a)
	}
}
