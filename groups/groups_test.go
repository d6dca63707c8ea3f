package groups

import (
	"math"
	"slices"
	"testing"

	"epact/api"
	"epact/canon"
	"epact/gran"
	"epact/sample"
)

// Forms are written in short.
var (
	set   = sample.Set
	form  = sample.Form
	with  = sample.With
	odd   = sample.Odd
	equal = sample.Equal
)

const top = api.MaxTick

var (
	days = form(1, set(0, 0))
	work = form(7, set(0, 4))
)

// sparse has its ticks far apart, so that none of them is beside another one.
func sparse(count int) api.Form {
	f := api.Form{Period: 2 * count, Count: count}
	for i := range count {
		f.Core = append(f.Core, set(2*i, 2*i))
	}
	f.Core[count-1] = nil
	return f
}

// exceptions is a form of so many of them, each with some spans.
func exceptions(count, each int) api.Form {
	var f api.Form
	for i := range count {
		g := odd(2 * i)
		for j := range each {
			g.Ticks = append(g.Ticks, api.Span{From: 2 * (i*each + j), To: 2 * (i*each + j)})
		}
		f.Odd = append(f.Odd, g)
	}
	return f
}

func check(t *testing.T, what string, g api.Form, e api.Errno, want api.Form, wrong api.Errno) {
	t.Helper()
	if e != wrong || !equal(g, want) {
		t.Error(what, g, e)
	}
	if e == api.OK && (gran.Right(g) != api.OK || !canon.Is(g)) {
		t.Error(what, g)
	}
}

// P13.1
func TestDone(t *testing.T) {
	for _, x := range []struct {
		f, g  api.Form
		wrong api.Errno
	}{
		{form(14, set(0, 4), set(7, 11)), work, 0}, {api.Form{}, api.Form{}, 0}, {form(7, nil), api.Form{}, 0},
		{form(4, set(0, 4)), api.Form{}, api.ErrRange}, {form(top+1, set(0, 4)), api.Form{}, api.ErrRange}, {form(7, set(top, top+1)), api.Form{}, api.ErrRange}, {api.Form{Count: -1}, api.Form{}, api.ErrRange},
		{with(work, odd(top)), api.Form{}, api.ErrRange}, {api.Form{Odd: make([]api.Granule, api.MaxOdd+1)}, api.Form{}, api.ErrLong}, {api.Form{Count: -5, Core: make([][]api.Span, api.MaxCount+1)}, api.Form{}, api.ErrLong},
	} {
		g, e := Done(x.f)
		check(t, "done", g, e, x.g, x.wrong)
	}
}

// P13.1
func TestRaw(t *testing.T) {
	f := with(work, odd(1, 8, 9))
	for _, x := range []struct {
		f     api.Form
		i     int
		l     []api.Span
		wrong api.Errno
	}{
		{f, 1, set(7, 11), 0}, {f, -1, set(-7, -3), 0}, {with(api.Form{}, odd(1, 8, 9)), 1, nil, 0}, {api.Form{}, math.MaxInt, nil, 0},
		{f, top, nil, api.ErrRange}, {f, math.MinInt, nil, api.ErrRange}, {f, math.MaxInt, nil, api.ErrRange}, {form(7, nil), math.MaxInt, nil, 0},
		{form(1, nil, set(0, 0)), 2*top + 1, set(top, top), 0}, {form(1, nil, set(0, 0)), 2*top + 3, nil, api.ErrRange},
	} {
		if l, e := Raw(x.f, x.i); !slices.Equal(l, x.l) || e != x.wrong {
			t.Error(x, l, e)
		}
	}
}

// P13.2
func TestGroup(t *testing.T) {
	far := with(form(1, set(-5, -5)), odd(top-3))
	for _, x := range []struct {
		f     api.Form
		m     int
		g     api.Form
		wrong api.Errno
	}{
		{days, 7, form(7, set(0, 6)), 0}, {days, 1, days, 0}, {work, 3, form(21, set(0, 4, 7, 11, 14, 18)), 0},
		{form(9, set(0, 1), set(4, 5)), 3, form(27, set(0, 1, 4, 5, 9, 10), set(13, 14, 18, 19, 22, 23)), 0},
		{form(10, set(0, 1), set(2, 3), nil), 2, form(20, set(0, 3), set(10, 11), set(12, 13)), 0},
		{with(work, odd(1, 8, 11)), 2, with(form(14, set(0, 4, 7, 11)), odd(0, 0, 4, 8, 11)), 0},
		{with(work, odd(1), odd(2, 12, 20)), 2, with(form(14, set(0, 4, 7, 11)), odd(0, 0, 4), odd(1, 12, 25)), 0},
		{with(work, odd(-1, -6, -3)), 2, with(form(14, set(0, 4, 7, 11)), odd(-1, -14, -10, -6, -3)), 0},
		{with(api.Form{}, odd(3, 5, 6), odd(4, 7, 7), odd(9, 8, 8)), 4, with(api.Form{}, odd(0, 5, 6), odd(1, 7, 7), odd(2, 8, 8)), 0},
		{with(api.Form{}, odd(3, 5, 6), odd(4, 7, 7), odd(7, 8, 8), odd(9)), 4, with(api.Form{}, odd(0, 5, 6), odd(1, 7, 8)), 0},
		{api.Form{}, 6000, api.Form{}, 0}, {days, api.MaxCount, form(6000, set(0, 5999)), 0},
		{days, 0, api.Form{}, api.ErrArg}, {days, -1, api.Form{}, api.ErrArg}, {days, api.MaxCount + 1, api.Form{}, api.ErrArg}, {days, math.MinInt, api.Form{}, api.ErrArg},
		{form(1<<39, set(0, 0)), 4, api.Form{}, api.ErrRange}, {form(1<<39, set(0, 0)), 2, form(1<<40, set(0, 0, 1<<39, 1<<39)), 0},
		{form(1<<39, set(top, top)), 2, api.Form{}, api.ErrRange}, {with(api.Form{}, odd(top)), 7, api.Form{}, api.ErrRange}, {with(api.Form{}, odd(-top, 3, 3)), 7, api.Form{}, api.ErrRange}, {with(api.Form{}, odd(-top, 3, 3)), 2, with(api.Form{}, odd(-top/2, 3, 3)), 0},
		{far, 4, with(form(4, set(-5, -2)), odd(top/4-1, top-9, top-9, top-7, top-6)), 0},
	} {
		g, e := Group(x.f, x.m)
		check(t, "group", g, e, x.g, x.wrong)
	}
}

// P13.2: cores at the limit, and beyond it.
func TestGroupLong(t *testing.T) {
	for _, x := range []struct {
		count, m, size int
		wrong          api.Errno
	}{{6000, 10, 5999, 0}, {11, 6000, 60000, 0}, {6000, 11, 0, api.ErrLong}, {13, 6000, 0, api.ErrLong}} {
		g, e := Group(sparse(x.count), x.m)
		if e != x.wrong || gran.Size(g) != x.size {
			t.Error(x, gran.Size(g), e)
		}
	}
	if g, e := Group(exceptions(6000, 1), 1); e != api.OK || len(g.Odd) != 6000 {
		t.Error(len(g.Odd), e)
	}
}

// P13.3
func TestShift(t *testing.T) {
	for _, x := range []struct {
		f     api.Form
		m     int
		g     api.Form
		wrong api.Errno
	}{
		{days, 3, form(1, set(-3, -3)), 0}, {days, 0, days, 0}, {days, -3, form(1, set(3, 3)), 0}, {days, top, form(1, set(-top, -top)), 0}, {days, -top, form(1, set(top, top)), 0},
		{form(9, set(0, 1), set(4, 5)), 1, form(9, set(-5, -4), set(0, 1)), 0},
		{with(work, odd(1, 8, 11)), -2, with(form(7, set(14, 18)), odd(-1, 8, 11)), 0},
		{with(api.Form{}, odd(1, 8, 11)), top - 1, with(api.Form{}, odd(top, 8, 11)), 0},
		{with(api.Form{}, odd(1, 8, 11)), top, api.Form{}, api.ErrRange}, {with(api.Form{}, odd(-1)), -top, api.Form{}, api.ErrRange},
		{days, top + 1, api.Form{}, api.ErrArg}, {days, -top - 1, api.Form{}, api.ErrArg}, {days, math.MinInt, api.Form{}, api.ErrArg}, {days, math.MaxInt, api.Form{}, api.ErrArg},
		{work, top, api.Form{}, api.ErrRange}, {work, -top / 6, api.Form{}, api.ErrRange}, {api.Form{}, top, api.Form{}, 0}, {form(1, set(1, 1)), -top, api.Form{}, api.ErrRange},
	} {
		g, e := Shift(x.f, x.m)
		check(t, "shift", g, e, x.g, x.wrong)
	}
}

// P13.4
func TestSubset(t *testing.T) {
	f := with(work, odd(1), odd(2, 15, 16))
	many := exceptions(6000, 1)
	for _, x := range []struct {
		f     api.Form
		m, n  int
		g     api.Form
		wrong api.Errno
	}{
		{days, 2, 4, with(api.Form{}, odd(2, 2, 2), odd(3, 3, 3), odd(4, 4, 4)), 0}, {days, -1, -1, with(api.Form{}, odd(-1, -1, -1)), 0},
		{f, 0, 3, with(api.Form{}, odd(0, 0, 4), odd(2, 15, 16), odd(3, 21, 25)), 0}, {f, 1, 1, api.Form{}, 0}, {api.Form{}, -top, top, api.Form{}, 0},
		{days, top, top, with(api.Form{}, odd(top, top, top)), 0}, {days, -top, -top, with(api.Form{}, odd(-top, -top, -top)), 0}, {many, -top, top, many, 0},
		{days, 2, 1, api.Form{}, api.ErrArg}, {days, -top - 1, 0, api.Form{}, api.ErrArg}, {days, 0, top + 1, api.Form{}, api.ErrArg}, {days, math.MinInt, math.MaxInt, api.Form{}, api.ErrArg},
		{days, 1, 6001, api.Form{}, api.ErrLong}, {work, top - 6000, top, api.Form{}, api.ErrLong}, {work, top - 5999, top, api.Form{}, api.ErrRange}, {work, -top, -top, api.Form{}, api.ErrRange}, {form(top, set(0, 0), nil), 2, 4, api.Form{}, api.ErrRange}, {form(top, nil, set(0, 0)), 2, 2, api.Form{}, 0},
	} {
		g, e := Subset(x.f, x.m, x.n)
		check(t, "subset", g, e, x.g, x.wrong)
	}
	if g, e := Subset(days, 1, 6000); e != api.OK || len(g.Odd) != 6000 {
		t.Error(len(g.Odd), e)
	}
	if g, e := Subset(form(20, set(0, 0, 2, 2, 4, 4, 6, 6, 8, 8, 10, 10, 12, 12, 14, 14, 16, 16, 18, 18), nil), 0, 12000-1); e != api.OK || gran.Size(g) != 60000 {
		t.Error(gran.Size(g), e)
	}
	if g, e := Subset(form(22, set(0, 0, 2, 2, 4, 4, 6, 6, 8, 8, 10, 10, 12, 12, 14, 14, 16, 16, 18, 18, 20, 20)), 0, 5999); e != api.ErrLong || len(g.Odd) != 0 {
		t.Error(gran.Size(g), e)
	}
}

// R3: results are in memory of their own.
func TestOwnMemory(t *testing.T) {
	f := with(form(7, set(0, 4)), odd(1, 8, 11))
	for _, do := range []func() (api.Form, api.Errno){
		func() (api.Form, api.Errno) { return Done(f) }, func() (api.Form, api.Errno) { return Group(f, 1) },
		func() (api.Form, api.Errno) { return Shift(f, 0) }, func() (api.Form, api.Errno) { return Subset(f, 0, 1) },
	} {
		g, e := do()
		if e != api.OK {
			t.Error(e)
		}
		for _, l := range g.Core {
			l[0].From = -99
		}
		for _, o := range g.Odd {
			o.Ticks[0].From = -99
		}
		g.Odd[0].Index = 77
	}
	l, _ := Raw(f, 0)
	l[0].From = -99
	if !equal(f, with(form(7, set(0, 4)), odd(1, 8, 11))) {
		t.Error(f)
	}
}

// R1: forms that are none do no harm.
func TestWrongForms(t *testing.T) {
	for _, f := range []api.Form{{Count: 5}, {Count: -5}, {Count: math.MaxInt, Period: math.MaxInt}, form(0, set(0, 1)), form(-4, set(3, 1)), with(work, odd(3), odd(1)), form(3, nil, set(5, 9), set(1, 2))} {
		Done(f)
		Raw(f, 3)
		Raw(f, math.MinInt)
		Group(f, 5999)
		Shift(f, -3)
		Subset(f, -top, top)
	}
}
