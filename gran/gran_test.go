package gran

import (
	"math"
	"slices"
	"testing"

	"epact/api"
	"epact/sample"
)

// Forms are written in short.
var (
	set  = sample.Set
	form = sample.Form
	with = sample.With
)

const top = api.MaxTick

var (
	work = form(7, set(0, 4))
	some = with(work, api.Granule{Index: 1, Ticks: set(8, 11)})
	one  = with(api.Form{}, api.Granule{Index: 3, Ticks: set(5, 6)})
)

// P5.1
func TestRight(t *testing.T) {
	for _, f := range []api.Form{
		{}, work, some, one,
		form(top, set(-top, -1)), form(1, nil, nil, nil), form(9, nil, set(3, 4, 6, 6), nil, set(8, 8)),
		form(5, set(0, 4)), form(6, set(0, 0, 5, 5)), form(3, set(0, 0), set(1, 1), set(2, 2)),
		with(work, api.Granule{Index: 1}), with(work, api.Granule{Index: 1, Ticks: set(5, 13)}),
		with(work, api.Granule{Index: 0, Ticks: set(0, 5)}, api.Granule{Index: 1, Ticks: set(6, 13)}),
		with(work, api.Granule{Index: 0}, api.Granule{Index: 1, Ticks: set(-2, 13)}),
		with(api.Form{}, api.Granule{Index: -top, Ticks: set(-top, 0)}, api.Granule{Index: top, Ticks: set(1, top)}),
		with(form(1, nil, set(0, 0)), api.Granule{Index: top, Ticks: nil}),
		with(form(1, set(-9, -9)), api.Granule{Index: top, Ticks: nil}),
	} {
		if e := Right(f); e != api.OK {
			t.Error(f, e)
		}
	}
	for what, f := range map[string]api.Form{
		"no core of a count":       {Period: 7, Count: 1},
		"a core without a count":   {Core: [][]api.Span{set(0, 1)}},
		"a period without count":   {Period: 7},
		"more sets than the count": {Period: 7, Count: 1, Core: [][]api.Span{nil, nil}},
		"a negative count":         {Period: 7, Count: -1},
		"no period":                {Count: 1, Core: [][]api.Span{set(0, 0)}},
		"a negative period":        form(-7, set(0, 4)),
		"a period too long":        form(top+1, set(0, 4)),
		"overlapping turns":        form(4, set(0, 4)),
		"a turn inside another":    form(4, set(0, 0, 5, 5)),
		"a core out of order":      form(7, set(3, 4), set(0, 1)),
		"a core that overlaps":     form(7, set(0, 2), set(2, 4)),
		"order across a gap":       form(9, set(3, 4), nil, set(0, 1)),
		"a wrong set":              form(7, set(4, 0)),
		"spans that touch":         form(7, set(0, 1, 2, 3)),
		"a tick out of range":      form(7, set(top-3, top+1)),
		"a wrong exception":        with(work, api.Granule{Index: 1, Ticks: set(8, 7)}),
		"an index twice":           with(work, api.Granule{Index: 1}, api.Granule{Index: 1}),
		"indices that fall":        with(work, api.Granule{Index: 2}, api.Granule{Index: 1}),
		"an index out of range":    with(api.Form{}, api.Granule{Index: top + 1}),
		"one below the range":      with(api.Form{}, api.Granule{Index: -top - 1}),
		"an exception too early":   with(work, api.Granule{Index: 1, Ticks: set(4, 11)}),
		"an exception too late":    with(work, api.Granule{Index: 1, Ticks: set(8, 14)}),
		"one behind the other":     with(work, api.Granule{Index: 0, Ticks: set(0, 6)}, api.Granule{Index: 1, Ticks: set(6, 13)}),
		"past one that is empty":   with(work, api.Granule{Index: 0}, api.Granule{Index: 1, Ticks: set(-3, 13)}),
		"no ticks beside it":       with(work, api.Granule{Index: top / 7}),
		"nor on the other side":    with(work, api.Granule{Index: -top / 7}),
		"far from all ticks":       with(work, api.Granule{Index: top}),
		"the last one of days":     with(form(1, set(0, 0)), api.Granule{Index: top}),
	} {
		if e := Right(f); e != api.ErrForm {
			t.Error(what, e)
		}
	}
}

// P5.1: limits come first.
func TestRightLong(t *testing.T) {
	sets := make([][]api.Span, api.MaxCount+1)
	if e := Right(api.Form{Period: 1, Count: api.MaxCount + 1, Core: sets}); e != api.ErrLong {
		t.Error(e)
	}
	if e := Right(api.Form{Period: 1, Count: api.MaxCount, Core: sets[1:]}); e != api.OK {
		t.Error(e)
	}
	odd := make([]api.Granule, api.MaxOdd+1)
	if e := Right(api.Form{Odd: odd}); e != api.ErrLong {
		t.Error(e)
	}
	if e := Right(api.Form{Odd: odd[1:]}); e != api.ErrForm {
		t.Error(e)
	}
	for i := range odd {
		odd[i].Index = i
	}
	if e := Right(api.Form{Odd: odd[1:]}); e != api.OK {
		t.Error(e)
	}
	var l []api.Span
	for i := range api.MaxSpans {
		l = append(l, api.Span{From: 2 * i, To: 2 * i})
	}
	if e := Right(form(2*api.MaxSpans, l)); e != api.OK {
		t.Error(e)
	}
	if e := Right(with(form(2*api.MaxSpans, l), api.Granule{Index: 5, Ticks: set(3, 1)})); e != api.ErrLong {
		t.Error(e)
	}
}

// P5.2
func TestGet(t *testing.T) {
	for _, x := range []struct {
		f     api.Form
		i     int
		l     []api.Span
		wrong api.Errno
	}{
		{work, 0, set(0, 4), 0}, {work, -1, set(-7, -3), 0}, {some, 1, set(8, 11), 0}, {some, 2, set(14, 18), 0}, {some, 0, set(0, 4), 0},
		{one, 3, set(5, 6), 0}, {one, 4, nil, 0}, {api.Form{}, top, nil, 0},
		{work, top, nil, api.ErrRange}, {work, top/7 - 1, set(top/7*7-7, top/7*7-3), 0}, {work, top / 7, nil, api.ErrRange}, {work, -top/7 - 1, nil, api.ErrRange},
		{one, top + 1, nil, api.ErrRange}, {one, -top - 1, nil, api.ErrRange}, {one, math.MaxInt, nil, api.ErrRange}, {one, math.MinInt, nil, api.ErrRange},
		{form(top, set(0, 0)), top, nil, api.ErrRange}, {form(top, nil), top, nil, 0}, {form(top, set(0, 0), nil), top - 1, nil, 0},
		{form(1, set(0, 0)), top, set(top, top), 0}, {form(9, set(0, 1), nil, set(4, 4)), -4, set(-14, -14), 0},
	} {
		if l, e := Get(x.f, x.i); !slices.Equal(l, x.l) || e != x.wrong {
			t.Error(x, l, e)
		}
	}
}

// P5.2
func TestSize(t *testing.T) {
	if Size(api.Form{}) != 0 || Size(some) != 2 || Size(with(form(9, set(0, 1, 3, 4), nil), api.Granule{Index: 1, Ticks: set(6, 7)}, api.Granule{Index: 2})) != 3 {
		t.Error("size")
	}
}

// P5.3
func TestNeighbors(t *testing.T) {
	gap := with(form(7, set(0, 1), nil, nil), api.Granule{Index: 0}, api.Granule{Index: 3}, api.Granule{Index: 4, Ticks: set(9, 9)})
	for _, x := range []struct {
		f              api.Form
		i              int
		before, behind int
		below, above   bool
	}{
		{some, 1, 0, 2, true, true},
		{one, 3, 0, 0, false, false}, {one, -9, 0, 3, false, true}, {one, 4, 3, 0, true, false},
		{api.Form{}, 0, 0, 0, false, false}, {form(1, nil, nil), 5, 0, 0, false, false},
		{gap, 0, -3, 4, true, true}, {gap, 3, -3, 4, true, true}, {gap, 4, -3, 6, true, true}, {gap, 5, 4, 6, true, true}, {gap, 7, 6, 9, true, true}, {gap, -1, -3, 4, true, true},
		{work, top, top - 1, 0, true, false}, {work, -top, 0, -top + 1, false, true}, {work, math.MaxInt, top, 0, true, false}, {work, math.MinInt, 0, -top, false, true},
		{work, top + 1, top, 0, true, false}, {work, -top - 1, 0, -top, false, true},
		{form(7, nil, set(0, 1)), top, top - 1, 0, true, false},
	} {
		if j, ok := Before(x.f, x.i); j != x.before || ok != x.below {
			t.Error("before", x, j, ok)
		}
		if j, ok := Behind(x.f, x.i); j != x.behind || ok != x.above {
			t.Error("behind", x, j, ok)
		}
	}
}

// R3: results are in memory of their own.
func TestOwnMemory(t *testing.T) {
	f := with(form(7, set(0, 4)), api.Granule{Index: 1, Ticks: set(8, 11)})
	g := Copy(f)
	g.Core[0][0].To = 99
	g.Odd[0].Ticks[0].To = 99
	g.Odd[0].Index = 99
	for _, i := range []int{0, 1, 2} {
		l, _ := Get(f, i)
		l[0].From = -99
		_ = append(l[:0], api.Span{})
	}
	if f.Core[0][0] != (api.Span{From: 0, To: 4}) || f.Odd[0].Index != 1 || f.Odd[0].Ticks[0] != (api.Span{From: 8, To: 11}) {
		t.Error(f)
	}
	if g = Copy(f); Right(g) != api.OK || g.Period != 7 || g.Count != 1 || len(g.Core) != 1 || len(g.Odd) != 1 || !slices.Equal(g.Odd[0].Ticks, set(8, 11)) || !slices.Equal(g.Core[0], set(0, 4)) {
		t.Error(g)
	}
}

// R1: forms that are none do no harm.
func TestWrongForms(t *testing.T) {
	for _, f := range []api.Form{
		{Count: 5}, {Count: -5, Core: [][]api.Span{nil}}, {Count: math.MaxInt, Period: math.MaxInt}, {Period: math.MinInt, Count: 1, Core: [][]api.Span{set(math.MaxInt, math.MinInt)}},
		with(work, api.Granule{Index: 5}, api.Granule{Index: 3, Ticks: set(9, 1)}, api.Granule{Index: 4}, api.Granule{Index: math.MinInt}, api.Granule{Index: math.MaxInt}),
	} {
		if Right(f) != api.ErrForm {
			t.Error(f)
		}
		for _, i := range []int{math.MinInt, -top, -1, 0, 3, 4, 5, top, math.MaxInt} {
			Get(f, i)
			if j, ok := Before(f, i); ok && j >= i {
				t.Error("before", f, i, j)
			}
			if j, ok := Behind(f, i); ok && j <= i {
				t.Error("behind", f, i, j)
			}
		}
		Size(f)
		Copy(f)
	}
}
