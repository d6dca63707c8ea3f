package canon

import (
	"testing"

	"epact/api"
	"epact/gran"
	"epact/sample"
)

// Forms are written in short.
var (
	set   = sample.Set
	form  = sample.Form
	with  = sample.With
	odd   = sample.Odd
	equal = sample.Equal
)

const top = api.MaxTick

// P6.1, P6.2
func TestForm(t *testing.T) {
	work := form(7, set(0, 4))
	for _, x := range []struct{ f, g api.Form }{
		{api.Form{}, api.Form{}},
		{work, work},
		{form(14, set(0, 4), set(7, 11)), work},
		{form(21, set(0, 4), set(7, 11), set(14, 18)), work},
		{form(9, set(0, 1), set(4, 5)), form(9, set(0, 1), set(4, 5))},
		{form(12, set(0, 1), set(2, 3), set(6, 7), set(8, 9)), form(6, set(0, 1), set(2, 3))},
		{form(12, set(0, 1), nil, set(6, 7), nil), form(6, set(0, 1), nil)},
		{form(12, nil, set(0, 1), set(6, 7), nil), form(12, nil, set(0, 1), set(6, 7), nil)},
		{form(8, set(0, 0), set(2, 2), set(4, 4), set(6, 6)), form(2, set(0, 0))},
		{form(top, set(-top, -1)), form(top, set(-top, -1))},
		{with(form(9, nil, nil, nil), odd(5, 1, 2), odd(6)), with(api.Form{}, odd(5, 1, 2))},
		{with(work, odd(1, 7, 11)), work},
		{with(work, odd(1, 8, 11)), with(work, odd(1, 8, 11))},
		{with(work, odd(-2, -14, -10), odd(3), odd(4, 28, 32), odd(9, 61, 61)), with(work, odd(3), odd(9, 61, 61))},
		{with(form(14, set(0, 4), set(7, 11)), odd(5), odd(6, 42, 46)), with(work, odd(5))},
		{with(form(7, set(0, 4), nil), odd(-3), odd(1)), form(7, set(0, 4), nil)},
		{with(api.Form{}, odd(-top), odd(3, 3, 3), odd(top)), with(api.Form{}, odd(3, 3, 3))},
		{with(form(1, nil, set(0, 0)), odd(top-1, top/2-1, top/2-1), odd(top)), form(1, nil, set(0, 0))},
	} {
		if e := gran.Right(x.f); e != api.OK {
			t.Fatal(x.f, e)
		}
		g := Form(x.f)
		if !equal(g, x.g) || gran.Right(g) != api.OK {
			t.Error(x, g)
		}
		if !Is(g) || Is(x.f) != equal(x.f, x.g) || !Same(x.f, g) || !equal(Form(g), g) {
			t.Error(x)
		}
	}
}

// P6.2
func TestSame(t *testing.T) {
	l := []api.Form{{}, form(7, set(0, 4)), form(7, set(0, 3)), form(8, set(0, 4)), form(7, set(0, 4), nil), form(14, set(0, 4), set(8, 12)), with(form(7, set(0, 4)), odd(1)), with(form(7, set(0, 4)), odd(2)), with(form(7, set(0, 4)), odd(1, 7, 7)), with(api.Form{}, odd(0, 0, 4)), form(7, set(7, 11))}
	for i, f := range l {
		for j, g := range l {
			if Same(f, g) != (i == j) {
				t.Error(f, g)
			}
		}
	}
	if !Same(form(14, set(0, 4), set(7, 11)), with(form(7, set(0, 4)), odd(-1, -7, -3))) {
		t.Error("same")
	}
}

// P6.1: the greatest forms are done in time.
func TestGreat(t *testing.T) {
	f := api.Form{Period: 60000, Count: 6000}
	for i := range f.Count {
		f.Core = append(f.Core, set(10*i, 10*i+2))
		f.Odd = append(f.Odd, odd(i, 10*i, 10*i+2))
	}
	if g := Form(f); !equal(g, form(10, set(0, 2))) {
		t.Error(g.Period, g.Count, len(g.Odd))
	}
	f.Core[5999] = nil
	if g := Form(f); g.Count != 6000 || len(g.Odd) != 1 || g.Odd[0].Index != 5999 || Is(f) || !Is(g) {
		t.Error(g.Period, g.Count, len(g.Odd))
	}
}

// R1, R3
func TestWrongAndOwn(t *testing.T) {
	for _, f := range []api.Form{{Count: 3}, {Period: 7}, {Count: -1, Period: -1}, form(0, set(0, 1)), form(-4, set(3, 1)), with(form(7, set(0, 4)), odd(3), odd(3))} {
		Form(f)
		Is(f)
		Same(f, f)
	}
	f := with(form(7, set(0, 4)), odd(1, 8, 8))
	g := Form(f)
	g.Core[0][0].From, g.Odd[0].Ticks[0].From = -1, -1
	if !equal(f, with(form(7, set(0, 4)), odd(1, 8, 8))) {
		t.Error(f)
	}
}
