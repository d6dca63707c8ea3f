package conv

import (
	"math"
	"testing"

	"epact/api"
	"epact/sample"
)

// Forms are written in short.
var (
	set  = sample.Set
	form = sample.Form
	with = sample.With
	odd  = sample.Odd
)

const top = api.MaxTick

var (
	days   = form(1, set(0, 0))
	weeks  = form(7, set(0, 6))
	work   = form(7, set(0, 4))
	months = form(30, set(0, 29))
	one    = with(api.Form{}, odd(3, 5, 20))
	ends2  = with(api.Form{}, odd(0, -top, -top, 0, 0, top, top)) // one granule, its ticks far apart
)

// P21.1
func TestCover(t *testing.T) {
	for i, x := range []struct {
		a, b  api.Form
		i, j  int
		found bool
	}{
		{days, weeks, 9, 1, true}, {days, work, 5, 0, false}, {days, work, 4, 0, true}, {days, work, 7, 1, true}, {weeks, months, 4, 0, false}, {weeks, months, 3, 0, true}, {weeks, months, -1, -1, true}, {weeks, days, 0, 0, false}, {weeks, weeks, 5, 5, true}, {work, weeks, 2, 2, true},
		{one, days, 3, 0, false}, {one, months, 3, 0, true}, {one, months, 4, 0, false}, {days, one, 5, 3, true}, {days, one, 21, 0, false}, {days, api.Form{}, 0, 0, false}, {api.Form{}, days, 0, 0, false},
		{days, with(weeks, odd(1)), 9, 0, false}, {days, with(weeks, odd(1, 8, 8, 10, 10)), 9, 0, false}, {days, with(weeks, odd(1, 8, 8, 10, 10)), 10, 1, true}, {form(7, set(0, 0, 6, 6)), weeks, 3, 3, true}, {form(7, set(0, 0, 6, 6)), work, 3, 0, false},
		{days, days, top, top, true}, {days, days, top + 1, 0, false}, {days, days, -top - 1, 0, false}, {weeks, days, top, 0, false}, {days, weeks, top, 0, false}, {days, days, math.MaxInt, 0, false}, {days, days, math.MinInt, 0, false}, {ends2, ends2, 0, 0, true},
	} {
		if j, ok := Cover(x.a, x.b, x.i); j != x.j || ok != x.found {
			t.Error(i, x, j, ok)
		}
	}
}

// P21.2
func TestWithinMeets(t *testing.T) {
	none := [3]int{0, 0, 0}
	for i, x := range []struct {
		a, b          api.Form
		i             int
		within, meets [3]int
	}{
		{work, days, 1, [3]int{7, 11, 1}, [3]int{7, 11, 1}}, {weeks, months, 4, none, [3]int{0, 1, 1}}, {months, weeks, 0, [3]int{0, 3, 1}, [3]int{0, 4, 1}}, {months, weeks, 1, [3]int{5, 7, 1}, [3]int{4, 8, 1}}, {days, weeks, 9, none, [3]int{1, 1, 1}}, {weeks, weeks, -3, [3]int{-3, -3, 1}, [3]int{-3, -3, 1}},
		{weeks, work, 1, [3]int{1, 1, 1}, [3]int{1, 1, 1}}, {work, with(days, odd(7), odd(11)), 1, [3]int{8, 10, 1}, [3]int{8, 10, 1}}, {one, weeks, 3, [3]int{1, 2, 1}, [3]int{0, 2, 1}}, {one, weeks, 4, none, none}, {weeks, one, 0, none, [3]int{3, 3, 1}}, {months, one, 0, [3]int{3, 3, 1}, [3]int{3, 3, 1}}, {weeks, one, 3, none, none}, {weeks, api.Form{}, 3, none, none}, {api.Form{}, weeks, 3, none, none},
		{form(9, set(0, 1, 4, 8)), form(3, set(0, 2)), 0, [3]int{2, 2, 1}, [3]int{0, 2, 1}}, {form(9, set(0, 1, 4, 8)), form(9, set(1, 1, 4, 4, 9, 9)), 0, none, [3]int{-1, 0, 1}}, {form(9, set(0, 1, 4, 8)), form(9, set(1, 1, 4, 4)), 0, [3]int{0, 0, 1}, [3]int{0, 0, 1}}, {form(20, set(0, 2, 8, 9)), form(20, set(3, 3, 7, 7)), 0, none, none},
		{ends2, weeks, 0, none, [3]int{0, 0, 1}}, {ends2, days, 0, [3]int{-top, top, 1}, [3]int{-top, top, 1}}, {form(top, set(0, top-1)), days, 0, [3]int{0, top - 1, 1}, [3]int{0, top - 1, 1}}, {form(top, set(-top+1, -top+1, -9, -9)), weeks, 0, none, [3]int{-2, -2, 1}}, {days, days, top, [3]int{top, top, 1}, [3]int{top, top, 1}}, {days, days, top + 1, none, none}, {weeks, days, top, none, none}, {days, days, math.MinInt, none, none},
	} {
		for what, q := range map[string]struct {
			do   func(a, b api.Form, i int) (int, int, bool)
			want [3]int
		}{"within": {Within, x.within}, "meets": {Meets, x.meets}} {
			j, k, ok := q.do(x.a, x.b, x.i)
			if j != q.want[0] || k != q.want[1] || ok != (q.want[2] == 1) {
				t.Error(i, what, x.a, x.b, j, k, ok)
			}
		}
	}
}

// P21.3
func TestExtentNextPrev(t *testing.T) {
	for i, x := range []struct {
		f    api.Form
		i    int
		span api.Span
		ok   bool
	}{
		{weeks, -1, api.Span{From: -7, To: -1}, true}, {form(7, set(0, 0, 5, 6)), 1, api.Span{From: 7, To: 13}, true}, {one, 3, api.Span{From: 5, To: 20}, true}, {one, 4, api.Span{}, false}, {with(weeks, odd(1)), 1, api.Span{}, false}, {weeks, top, api.Span{}, false}, {days, top, api.Span{From: top, To: top}, true}, {days, top + 1, api.Span{}, false}, {ends2, 0, api.Span{From: -top, To: top}, true},
	} {
		if s, ok := Extent(x.f, x.i); s != x.span || ok != x.ok {
			t.Error(i, x, s, ok)
		}
	}
	gap := with(weeks, odd(1), odd(2))
	least, most := -top/7, (top-6)/7
	for i, x := range []struct {
		f           api.Form
		i           int
		next, prev  int
		above, down bool
	}{
		{weeks, -1, 0, -2, true, true}, {gap, 0, 3, -1, true, true}, {gap, 1, 3, 0, true, true}, {gap, 3, 4, 0, true, true}, {one, 3, 0, 0, false, false}, {one, 2, 3, 0, true, false}, {one, 4, 0, 3, false, true}, {api.Form{}, 0, 0, 0, false, false},
		{weeks, most, 0, most - 1, false, true}, {weeks, top, 0, most, false, true}, {weeks, most + 1, 0, most, false, true}, {weeks, -top, least, 0, true, false}, {weeks, least, least + 1, 0, true, false}, {weeks, least - 1, least, 0, true, false}, {weeks, math.MaxInt, 0, most, false, true}, {weeks, math.MinInt, least, 0, true, false},
		{days, top, 0, top - 1, false, true}, {days, -top, 1 - top, 0, true, false}, {form(7, set(0, 0), nil, nil), 0, 3, -3, true, true}, {form(7, set(0, 0), nil, nil), 1, 3, 0, true, true}, {form(1, nil, set(0, 0)), top, 0, top - 1, false, true}, {form(1, nil, set(0, 0)), math.MinInt, 1 - top, 0, true, false},
	} {
		if j, ok := Next(x.f, x.i); j != x.next || ok != x.above {
			t.Error(i, "next", x, j, ok)
		}
		if j, ok := Prev(x.f, x.i); j != x.prev || ok != x.down {
			t.Error(i, "prev", x, j, ok)
		}
	}
}

// R1: forms that are none do no harm.
func TestWrongForms(t *testing.T) {
	bad := []api.Form{{Count: 5}, {Count: -5}, {Count: math.MaxInt, Period: math.MaxInt}, form(0, set(0, 1)), form(-4, set(0, 0)), form(-4, set(3, 1)), form(3, nil, set(5, 9), set(1, 2)), form(1, set(0, 0), set(-5, -7)), with(days, odd(3), odd(1)), with(api.Form{}, odd(0, 5, 1, -top, top))}
	for _, f := range bad {
		for _, g := range append(bad, weeks, one, ends2) {
			for _, i := range []int{0, 3, top, math.MinInt} {
				Cover(f, g, i)
				Cover(g, f, i)
				Within(f, g, i)
				Within(g, f, i)
				Meets(f, g, i)
				Meets(g, f, i)
				Extent(f, i)
				Next(f, i)
				Prev(f, i)
			}
		}
	}
}
