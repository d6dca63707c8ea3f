package combine

import (
	"math"
	"slices"
	"testing"

	"epact/api"
	"epact/canon"
	"epact/gran"
	"epact/sample"
)

// Forms are written in short.
var (
	set   = sample.Set
	form  = sample.Form
	with  = sample.With
	odd   = sample.Odd
	equal = sample.Equal
)

const top = api.MaxTick

var (
	days   = form(1, set(0, 0))
	weeks  = form(7, set(0, 6))
	months = form(30, set(0, 29))
	work   = form(7, set(0, 0), set(1, 1), set(2, 2), set(3, 3), set(4, 4))
	one    = with(api.Form{}, odd(3, 5, 20))
)

// P15.1
func TestRounds(t *testing.T) {
	for _, x := range []struct {
		a, b         api.Form
		count, ticks int
		wrong        api.Errno
	}{
		{weeks, work, 1, 7, 0}, {work, weeks, 5, 7, 0}, {months, weeks, 7, 210, 0}, {weeks, months, 30, 210, 0}, {one, weeks, 0, 0, 0}, {weeks, one, 0, 0, 0}, {api.Form{}, api.Form{}, 0, 0, 0},
		{days, form(6000, set(0, 0)), 6000, 6000, 0}, {days, form(6001, set(0, 0)), 0, 0, api.ErrLong}, {form(6001, set(0, 0)), days, 1, 6001, 0},
		{form(top, set(0, 0)), form(top-1, set(0, 0)), 0, 0, api.ErrLong}, {form(top, set(0, 0)), form(5, set(0, 0)), 0, 0, api.ErrRange}, {form(top, set(0, 0)), form(4, set(0, 0)), 1, top, 0}, {form(5, set(0, 0)), form(top, set(0, 0)), 0, 0, api.ErrLong},
		{form(top, make([][]api.Span, 1201)...), form(5, set(0, 0)), 0, 0, api.ErrLong}, {form(top, make([][]api.Span, 1200)...), form(5, set(0, 0)), 0, 0, api.ErrRange},
	} {
		if count, ticks, e := Rounds(x.a, x.b); count != x.count || ticks != x.ticks || e != x.wrong {
			t.Error(x.a.Period, x.a.Count, x.b.Period, count, ticks, e)
		}
	}
}

// P15.1
func TestTouched(t *testing.T) {
	gap := with(days, odd(9))
	for _, x := range []struct {
		a, b    api.Form
		indices []int
		wrong   api.Errno
	}{
		{weeks, days, nil, 0}, {weeks, gap, []int{1}, 0}, {gap, weeks, []int{7, 8, 9, 10, 11, 12, 13}, 0}, {gap, days, []int{9}, 0}, {days, gap, []int{9}, 0},
		{with(weeks, odd(3)), days, []int{3}, 0}, {with(weeks, odd(3, 24, 24)), months, []int{0, 1, 2, 3, 4}, 0}, {one, days, []int{3}, 0}, {days, with(api.Form{}, odd(3, 5, 8)), []int{5, 6, 7, 8}, 0}, {weeks, one, []int{0, 1, 2}, 0},
		{with(api.Form{}, odd(0, 0, 0), odd(5, 8, 9)), gap, []int{0, 5}, 0}, {with(api.Form{}, odd(0), odd(5)), api.Form{}, []int{0, 5}, 0}, {api.Form{}, api.Form{}, nil, 0},
		{with(api.Form{}, odd(0, 0, api.MaxSpans)), days, nil, api.ErrLong}, {with(api.Form{}, odd(0, 0, api.MaxSpans-1)), days, []int{0}, 0},
		{days, with(api.Form{}, odd(0, 0, api.MaxSpans)), nil, api.ErrLong}, {days, with(form(100000, set(0, 99999)), odd(1, 100000, 100000)), nil, api.ErrLong},
	} {
		if l, e := Touched(x.a, x.b); !slices.Equal(l, x.indices) || e != x.wrong {
			t.Error(x, l, e)
		}
	}
}

// P15.2
func TestAt(t *testing.T) {
	for _, x := range []struct {
		a, b  api.Form
		i     int
		l     []api.Span
		wrong api.Errno
	}{
		{weeks, work, 0, set(0, 4), 0}, {weeks, work, -1, set(-7, -3), 0}, {months, weeks, 0, set(0, 27), 0}, {months, weeks, 1, set(35, 55), 0}, {work, weeks, 0, nil, 0},
		{weeks, with(days, odd(9)), 1, set(7, 8, 10, 13), 0}, {one, weeks, 3, set(7, 20), 0}, {one, weeks, 4, nil, 0}, {weeks, one, 1, nil, 0}, {months, one, 0, set(5, 20), 0},
		{form(9, set(0, 1, 3, 6)), form(3, set(0, 1)), 0, set(0, 1, 3, 4), 0}, {form(9, set(0, 1, 3, 4)), form(9, set(0, 0, 4, 4)), 0, set(0, 0, 4, 4), 0}, {form(9, set(0, 1, 3, 4)), form(9, set(0, 2)), 0, nil, 0},
		{weeks, days, top, nil, api.ErrRange}, {weeks, days, top + 1, nil, api.ErrRange}, {one, days, math.MinInt, nil, api.ErrRange}, {form(100000, set(0, 99999)), days, 0, nil, api.ErrLong}, {api.Form{}, days, 0, nil, 0},
	} {
		if l, e := At(x.a, x.b, x.i); !slices.Equal(l, x.l) || e != x.wrong {
			t.Error(x, l, e)
		}
	}
}

// P15.3
func TestPlain(t *testing.T) {
	gap := with(days, odd(9))
	var asked []int
	own := set(3, 4)
	f, e := Plain(weeks, gap, func(a, b api.Form, i int) ([]api.Span, api.Errno) {
		asked = append(asked, i*10+len(a.Odd)+len(b.Odd))
		return own, api.OK
	})
	if e != api.OK || !slices.Equal(asked, []int{0, 11}) || !equal(f, with(form(7, set(3, 4)), odd(1, 3, 4))) {
		t.Error(f, e, asked)
	}
	own[0].From = 99
	if f.Core[0][0].From != 3 || f.Odd[0].Ticks[0].From != 3 {
		t.Error("shared")
	}
	f.Core[0][0].To = 99
	if f.Odd[0].Ticks[0].To != 4 {
		t.Error("shared")
	}
	for _, when := range []int{0, 1, 2, 3} {
		calls := 0
		f, e := Plain(work, with(weeks, odd(9)), func(a, b api.Form, i int) ([]api.Span, api.Errno) {
			calls++
			if calls > when {
				return set(1, 2), api.Errno(70 + calls)
			}
			return nil, api.OK
		})
		if e != api.Errno(71+when) || calls != when+1 || f.Core != nil || f.Odd != nil || f.Count != 0 {
			t.Error(f, e, calls)
		}
	}
	never := func(a, b api.Form, i int) ([]api.Span, api.Errno) { t.Error("asked"); return nil, api.OK }
	if _, e := Plain(days, form(6001, set(0, 0)), never); e != api.ErrLong {
		t.Error(e)
	}
	if _, e := Plain(form(top, set(0, 0)), form(5, set(0, 0)), never); e != api.ErrRange {
		t.Error(e)
	}
	if _, e := Plain(with(form(top, set(0, 0)), odd(0, 0, top/2)), with(form(top, set(0, 0)), odd(0, 0, 1)), func(a, b api.Form, i int) ([]api.Span, api.Errno) { return nil, api.OK }); e != api.OK {
		t.Error(e)
	}
	if _, e := Plain(with(api.Form{}, odd(0, 0, api.MaxSpans)), days, never); e != api.ErrLong {
		t.Error(e)
	}
	Plain(days, days, nil)
}

// P15.3
func TestForm(t *testing.T) {
	for _, x := range []struct {
		a, b, g api.Form
		wrong   api.Errno
	}{
		{weeks, work, form(7, set(0, 4)), 0}, {months, months, months, 0}, {work, work, work, 0}, {work, weeks, api.Form{}, 0}, {one, days, one, 0}, {one, weeks, with(api.Form{}, odd(3, 7, 20)), 0}, {weeks, one, api.Form{}, 0}, {months, one, with(api.Form{}, odd(0, 5, 20)), 0},
		{months, weeks, form(210, set(0, 27), set(35, 55), set(63, 83), set(91, 118), set(126, 146), set(154, 174), set(182, 209)), 0},
		{weeks, with(days, odd(9)), with(weeks, odd(1, 7, 8, 10, 13)), 0}, {weeks, with(work, odd(5, 7, 13), odd(6), odd(7), odd(8), odd(9)), with(form(7, set(0, 4)), odd(1, 7, 13)), 0},
		{with(weeks, odd(2, 14, 15)), work, with(form(7, set(0, 4)), odd(2, 14, 15)), 0}, {with(weeks, odd(0), odd(1, 0, 13)), work, with(form(7, set(0, 4)), odd(0), odd(1, 0, 4, 7, 11)), 0},
		{api.Form{}, weeks, api.Form{}, 0}, {weeks, api.Form{}, api.Form{}, 0},
		{days, form(6001, set(0, 0)), api.Form{}, api.ErrLong}, {form(top, set(0, 0)), form(5, set(0, 0)), api.Form{}, api.ErrRange}, {form(100000, set(0, 99999)), days, api.Form{}, api.ErrLong}, {form(top/2, set(0, 0)), form(top, set(0, 0)), form(top, set(0, 0), nil), 0},
		{form(top/2, set(top, top)), form(top, set(0, 0)), api.Form{}, api.ErrRange},
	} {
		g, e := Form(x.a, x.b)
		if e != x.wrong || !equal(g, x.g) || e == api.OK && (gran.Right(g) != api.OK || !canon.Is(g)) {
			t.Error(x, g, e)
		}
	}
}

// P15.3: the greatest forms are done in time.
func TestGreat(t *testing.T) {
	a := api.Form{Period: 60000, Count: 6000}
	b := with(days)
	for i := range 6000 {
		a.Core = append(a.Core, set(10*i, 10*i+7))
		b.Odd = append(b.Odd, odd(10*i+3))
	}
	g, e := Form(a, b)
	if e != api.OK || g.Count != 1 || len(g.Odd) != 6000 || gran.Size(g) != 12001 {
		t.Error(g.Count, len(g.Odd), e)
	}
}

// R1, R3
func TestWrongAndOwn(t *testing.T) {
	for _, f := range []api.Form{{Count: 5}, {Count: -5}, {Count: math.MaxInt, Period: math.MaxInt}, form(0, set(0, 1)), form(-4, set(3, 1)), form(3, nil, set(5, 9), set(1, 2)), with(days, odd(3), odd(1))} {
		for _, g := range []api.Form{f, weeks, one} {
			Rounds(f, g)
			Rounds(g, f)
			Touched(f, g)
			Touched(g, f)
			At(f, g, 0)
			At(g, f, 0)
			Form(f, g)
			Form(g, f)
		}
	}
	a := with(form(7, set(0, 6)), odd(1, 8, 9))
	g, _ := Form(a, a)
	g.Core[0][0].From, g.Odd[0].Ticks[0].From = -99, -99
	l, _ := At(a, days, 1)
	l[0].From = -99
	if !equal(a, with(form(7, set(0, 6)), odd(1, 8, 9))) {
		t.Error(a)
	}
}
