package solve

import (
	"math"
	"slices"
	"testing"

	"epact/api"
	"epact/sample"
)

// Forms are written in short.
var (
	set  = sample.Set
	form = sample.Form
	to   = sample.Range
)

const top = api.MaxTick

var (
	days  = form(1, set(0, 0))
	weeks = form(7, set(0, 6))
	work  = form(7, set(0, 4))
)

// pair is two variables, the second one above the first one by one week of business days.
func pair(more ...api.Con) api.Net {
	return api.Net{Vars: 2, Forms: []api.Form{work, days, weeks}, Cons: append([]api.Con{{X: 0, Y: 1, Range: to(1, 1)}}, more...)}
}

// P27.1
func TestEnough(t *testing.T) {
	for _, x := range [][3]int{{2, 3, 12}, {1, 5, 5}, {3, 1, 3}, {24, 2, api.MaxSteps}, {22, 2, 1<<23 - 2}, {23, 2, api.MaxSteps}, {1, api.MaxSteps, api.MaxSteps}, {1, api.MaxSteps + 1, api.MaxSteps}, {api.MaxSteps, 1, api.MaxSteps}, {api.MaxSteps - 1, 1, api.MaxSteps - 1}, {math.MaxInt, 1, api.MaxSteps}, {math.MaxInt, math.MaxInt, api.MaxSteps}, {2, 3161, 9995082}, {2, 3162, api.MaxSteps}, {0, 5, 0}, {5, 0, 0}, {-1, 5, 0}, {math.MinInt, math.MinInt, 0}, {5, -1, 0}} {
		if n := Enough(x[0], x[1]); n != x[2] {
			t.Error(x, n)
		}
	}
}

// P27.2
func TestFind(t *testing.T) {
	free := api.Net{Vars: 3}
	for i, x := range []struct {
		n        api.Net
		from, to int
		steps    int
		kind     uint8
		ticks    []int
		made     int
	}{
		{pair(), 3, 9, 1000, api.FoundSome, []int{3, 7}, 6}, {pair(), 5, 9, 1000, api.FoundNone, nil, 30}, {pair(), 3, 6, 1000, api.FoundNone, nil, 20}, {pair(), 3, 9, 0, api.FoundSpent, nil, 0}, {pair(), 3, 9, 5, api.FoundSpent, nil, 5}, {pair(), 3, 9, 6, api.FoundSome, []int{3, 7}, 6},
		{pair(), 3, 6, 19, api.FoundSpent, nil, 19}, {pair(), 3, 6, 20, api.FoundNone, nil, 20}, {api.Net{}, 0, 0, 0, api.FoundSome, nil, 0}, {api.Net{}, 5, 9, 100, api.FoundSome, nil, 0}, {free, -4, 9, 100, api.FoundSome, []int{-4, -4, -4}, 3}, {free, -4, 9, 2, api.FoundSpent, nil, 2},
		{pair(api.Con{X: 1, Y: 1, Form: 1, Range: to(1, 1)}), 3, 9, 1000, api.FoundNone, nil, 7 + 7*7}, {pair(api.Con{X: 1, Y: 0, Form: 1, Range: api.Range{High: -6, HasHigh: true}}), 3, 9, 1000, api.FoundSome, []int{3, 9}, 8}, {pair(api.Con{X: 1, Y: 0, Form: 1, Range: api.Range{Low: -3, HasLow: true}}), 3, 9, 1000, api.FoundSome, []int{4, 7}, 14},
		{api.Net{Vars: 1, Forms: []api.Form{work}, Cons: []api.Con{{}}}, 5, 5, 1, api.FoundNone, nil, 1}, {api.Net{Vars: 1, Forms: []api.Form{work}, Cons: []api.Con{{}}}, 5, 9, 9, api.FoundSome, []int{7}, 3}, {api.Net{Vars: 1, Forms: []api.Form{days}, Cons: []api.Con{{}}}, top, top, 9, api.FoundSome, []int{top}, 1}, {api.Net{Vars: 1, Forms: []api.Form{days}, Cons: []api.Con{{}}}, -top, -top + 4999, 9, api.FoundSome, []int{-top}, 1}, {api.Net{Vars: 1, Forms: []api.Form{days}, Cons: []api.Con{{Range: to(1, 1)}}}, 0, 4999, 5000, api.FoundNone, nil, 5000},
		{api.Net{Vars: 2, Forms: []api.Form{weeks, days}, Cons: []api.Con{{X: 0, Y: 1, Range: to(1, 1)}, {X: 0, Y: 1, Form: 1, Range: api.Range{High: 2, HasHigh: true}}}}, 0, 9, 1000, api.FoundSome, []int{5, 7}, 64},
	} {
		v, e := Find(x.n, x.from, x.to, x.steps)
		if e != api.OK || v.Kind != x.kind || !slices.Equal(v.Ticks, x.ticks) || v.Steps != x.made {
			t.Error(i, v, e)
		}
	}
	for i, x := range []struct {
		n               api.Net
		from, to, steps int
		wrong           api.Errno
	}{
		{pair(), 5, 4, 9, api.ErrArg}, {pair(), 0, 5000, 9, api.ErrArg}, {pair(), -top - 1, -top, 9, api.ErrArg}, {pair(), top, top + 1, 9, api.ErrArg}, {pair(), 0, 9, -1, api.ErrArg}, {pair(), 0, 9, api.MaxSteps + 1, api.ErrArg}, {pair(), math.MinInt, math.MaxInt, 9, api.ErrArg}, {pair(), math.MaxInt, math.MinInt, 9, api.ErrArg}, {pair(), math.MinInt, math.MinInt, 9, api.ErrArg}, {api.Net{}, 1, 0, 0, api.ErrArg},
		{api.Net{Vars: 25}, 5, 4, -1, api.ErrNet}, {pair(api.Con{X: 2}), 0, 9, 9, api.ErrNet}, {api.Net{Forms: []api.Form{{Count: 2}}}, 0, 9, 9, api.ErrNet},
	} {
		if v, e := Find(x.n, x.from, x.to, x.steps); e != x.wrong || v.Kind != 0 || v.Ticks != nil || v.Steps != 0 {
			t.Error(i, v, e)
		}
	}
}

// P27.3: as many steps as there may be are made in time.
func TestGreat(t *testing.T) {
	n := api.Net{Vars: 24, Forms: []api.Form{days, weeks, work}}
	for i := range 200 {
		n.Cons = append(n.Cons, api.Con{X: i % 24, Y: (i*5 + 3) % 24, Form: i % 3, Range: to(-700, 700)})
	}
	n.Cons = append(n.Cons[:199], api.Con{X: 23, Y: 23, Form: 1, Range: to(1, 1)})
	v, e := Find(n, 0, 4999, api.MaxSteps)
	if e != api.OK || v.Kind != api.FoundSpent || v.Steps != api.MaxSteps {
		t.Error(v, e)
	}
}
