package find

import (
	"math"
	"slices"
	"testing"

	"epact/api"
	"epact/sample"
)

// Forms are written in short.
var (
	set  = sample.Set
	form = sample.Form
	with = sample.With
	odd  = sample.Odd
)

const top = api.MaxTick

var (
	work = form(7, set(0, 4))
	one  = with(api.Form{}, odd(3, 5, 6))
	days = form(1, set(0, 0))
	half = form(1, nil, set(0, 0)) // indices run out before ticks do
	late = form(1, set(-top, -top))
)

func check(t *testing.T, what string, f api.Form, at, i int, ok bool, want int, there bool) {
	t.Helper()
	if ok != there || i != want {
		t.Error(what, f, at, i, ok)
	}
}

// P7.1
func TestAt(t *testing.T) {
	moved := with(work, odd(1, 5, 6), odd(2))
	for _, x := range []struct {
		f     api.Form
		t, i  int
		there bool
	}{
		{work, 9, 1, true}, {work, 5, 0, false}, {work, -3, -1, true}, {work, 6, 0, false}, {work, 0, 0, true}, {work, 4, 0, true},
		{moved, 5, 1, true}, {moved, 8, 0, false}, {moved, 15, 0, false}, {moved, 21, 3, true},
		{one, 5, 3, true}, {one, 7, 0, false}, {one, 4, 0, false}, {api.Form{}, 0, 0, false}, {form(1, nil), 0, 0, false},
		{form(7, set(0, 0, 3, 4)), 8, 0, false}, {form(7, set(0, 0, 3, 4)), 11, 1, true},
		{work, top - 2, 0, false}, {work, top - 3, top/7 - 1, false}, {days, top, top, true}, {days, -top, -top, true}, {days, top + 1, 0, false}, {days, -top - 1, 0, false},
		{half, top / 2, 0, false}, {half, top/2 - 1, top - 1, true}, {late, 0, top, true}, {late, 1, 0, false},
		{work, math.MaxInt, 0, false}, {work, math.MinInt, 0, false},
	} {
		if !x.there {
			x.i = 0
		}
		i, ok := At(x.f, x.t)
		check(t, "at", x.f, x.t, i, ok, x.i, x.there)
	}
}

// P7.2
func TestFromTill(t *testing.T) {
	moved := with(work, odd(1, 5, 6), odd(2))
	wide := form(8, set(-3, 4)) // begins before the first tick, and ends behind the last one, at both ends
	for _, x := range []struct {
		f          api.Form
		t          int
		from, till int
		some, any  bool
	}{
		{work, 5, 1, 0, true, true}, {work, 4, 0, 0, true, true}, {work, 0, 0, 0, true, true},
		{moved, 5, 1, 1, true, true}, {moved, 7, 3, 1, true, true}, {moved, 4, 0, 0, true, true}, {moved, 20, 3, 1, true, true}, {moved, 28, 4, 4, true, true},
		{one, 7, 0, 3, false, true}, {one, 100, 0, 3, false, true}, {one, 4, 3, 0, true, false}, {one, 5, 3, 3, true, true},
		{api.Form{}, 0, 0, 0, false, false}, {form(5, nil, nil), 0, 0, 0, false, false},
		{days, top, top, top, true, true}, {days, -top, -top, -top, true, true}, {days, top + 1, 0, top, false, true}, {days, -top - 1, -top, 0, true, false},
		{days, math.MaxInt, 0, top, false, true}, {days, math.MinInt, -top, 0, true, false},
		{half, top, 0, top - 1, false, true}, {half, -top, -top + 1, 0, true, false}, {half, -top / 2, -top + 1, -top + 1, true, true}, {half, -top/2 - 1, -top + 1, 0, true, false},
		{late, top, 0, top, false, true}, {late, -top, 0, 0, true, true},
		{work, top, 0, top/7 - 1, false, true}, {work, -top, -top / 7, 0, true, false},
		{wide, top, 0, top/8 - 1, false, true}, {wide, -top, 1 - top/8, 0, true, false},
		{form(top, set(-top, -top, -1, -1)), -top, 0, 0, true, true}, {form(top, set(-top, -top, -1, -1)), 0, 1, 1, true, true}, {form(top, set(-top, -top, -1, -1)), top, 0, 1, false, true},
	} {
		i, ok := From(x.f, x.t)
		check(t, "from", x.f, x.t, i, ok, x.from, x.some)
		i, ok = Till(x.f, x.t)
		check(t, "till", x.f, x.t, i, ok, x.till, x.any)
	}
}

// P7.3
func TestOver(t *testing.T) {
	gaps := form(10, set(0, 1, 6, 7))
	for _, x := range []struct {
		f       api.Form
		l       []api.Span
		indices []int
		wrong   api.Errno
	}{
		{work, set(3, 8), []int{0, 1}, 0}, {work, set(5, 6), nil, 0}, {work, set(4, 4, 6, 6, 21, 30), []int{0, 3, 4}, 0}, {work, nil, nil, 0},
		{with(work, odd(1)), set(3, 15), []int{0, 2}, 0}, {one, set(-9, 5), []int{3}, 0}, {one, set(-9, 4), nil, 0}, {one, set(7, 9), nil, 0},
		{gaps, set(2, 5), nil, 0}, {gaps, set(2, 6), []int{0}, 0}, {gaps, set(3, 3, 12, 12, 17, 19), []int{1}, 0},
		{work, set(8, 3), nil, api.ErrForm}, {work, set(1, 2, 3, 4), nil, api.ErrForm}, {work, set(0, top+1), nil, api.ErrForm}, {api.Form{}, set(1, 0), nil, api.ErrForm},
		{days, set(-top, top), nil, api.ErrLong}, {days, set(0, 0, api.MaxSpans, api.MaxSpans), nil, api.ErrLong}, {days, set(0, 0, api.MaxSpans-1, api.MaxSpans-1), []int{0, api.MaxSpans - 1}, 0},
		{form(2, set(0, 0)), set(1, 2*api.MaxSpans+1), nil, api.OK},
		{days, set(top-1, top), []int{top - 1, top}, 0},
	} {
		l, e := Over(x.f, x.l)
		if x.f.Period == 2 {
			if len(l) != api.MaxSpans || e != api.OK {
				t.Error(len(l), e)
			}
			continue
		}
		if !slices.Equal(l, x.indices) || e != x.wrong {
			t.Error(x, l, e)
		}
	}
}

// R1: forms that are none do no harm.
func TestWrongForms(t *testing.T) {
	for _, f := range []api.Form{
		{Count: 5}, {Count: -5, Core: [][]api.Span{nil}}, {Count: math.MaxInt, Period: math.MaxInt},
		{Period: math.MinInt, Count: 1, Core: [][]api.Span{set(math.MaxInt, math.MinInt)}}, {Period: 1, Count: 2, Core: [][]api.Span{set(math.MaxInt, math.MinInt), nil}},
		{Period: -7, Count: 1, Core: [][]api.Span{set(0, 4)}}, {Period: 7, Count: 3, Core: [][]api.Span{set(9, 4), nil, set(-3, 100)}}, {Count: 1, Core: [][]api.Span{set(0, 4)}},
		with(work, odd(5), odd(3, 9, 1), odd(4), odd(math.MinInt, 5, 3), odd(math.MaxInt)),
	} {
		for _, at := range []int{math.MinInt, -top, -1, 0, 3, 4, 5, top, math.MaxInt} {
			At(f, at)
			From(f, at)
			Till(f, at)
		}
		Over(f, set(-top, top))
		Over(f, set(3, 9))
	}
}
