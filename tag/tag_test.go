package tag

import (
	"math"
	"math/rand"
	"slices"
	"testing"

	"epact/api"
	"epact/sample"
)

// Forms are written in short.
var (
	set  = sample.Set
	form = sample.Form
	with = sample.With
	to   = sample.Range
)

const top = api.MaxTick

var (
	days = form(1, set(0, 0))
	work = form(7, set(0, 4))
	any  = api.Range{}
)

// net is a network of so many variables, with some constraints.
func net(vars int, cons ...api.Con) api.Net {
	return api.Net{Vars: vars, Forms: []api.Form{days, work}, Cons: cons}
}

// P23.1
func TestRight(t *testing.T) {
	con := api.Con{X: 0, Y: 1, Form: 1, Range: to(1, 2)}
	for i, n := range []api.Net{
		{}, net(0), net(24), net(2, con), net(1, api.Con{Form: 1}), net(2, slices.Repeat([]api.Con{con}, 200)...), {Forms: slices.Repeat([]api.Form{work}, 20)},
		net(2, api.Con{X: 1, Y: 0, Range: to(5, 2)}), net(2, api.Con{Range: api.Range{Low: -3, HasLow: true}}), net(2, api.Con{Range: api.Range{High: 3, HasHigh: true}}),
	} {
		if e := Right(n); e != api.OK {
			t.Error(i, e)
		}
	}
	for i, n := range []api.Net{
		net(-1), net(25), net(math.MinInt), net(2, slices.Repeat([]api.Con{con}, 201)...), {Forms: slices.Repeat([]api.Form{work}, 21)}, {Forms: []api.Form{days, form(4, set(0, 4))}}, {Forms: []api.Form{{Odd: make([]api.Granule, api.MaxOdd+1)}}},
		net(1, con), net(2, con, api.Con{X: 2}), net(2, api.Con{X: -1}), net(2, api.Con{Y: -1}), net(2, api.Con{Y: 2}), net(2, api.Con{Form: 2}), net(2, api.Con{Form: -1}), net(0, api.Con{}), {Vars: 2, Cons: []api.Con{{}}},
		net(2, api.Con{Range: api.Range{Low: 1}}), net(2, api.Con{Range: api.Range{High: 1}}), net(2, api.Con{Range: api.Range{Low: 1, HasHigh: true}}),
	} {
		if e := Right(n); e != api.ErrNet {
			t.Error(i, e)
		}
	}
}

// P23.2
func TestDistance(t *testing.T) {
	for _, x := range []struct {
		f       api.Form
		a, b, k int
		ok      bool
	}{
		{work, 3, 9, 1, true}, {work, 9, 3, -1, true}, {work, 3, 5, 0, false}, {work, 5, 3, 0, false}, {work, 0, 4, 0, true}, {work, -7, 18, 3, true}, {days, -top, top, 2 * top, true}, {days, top + 1, 0, 0, false}, {days, 0, math.MinInt, 0, false}, {api.Form{}, 0, 0, 0, false},
		{with(work, api.Granule{Index: 1}), 3, 9, 0, false}, {with(work, api.Granule{Index: 1}), 3, 15, 2, true},
	} {
		if k, ok := Distance(x.f, x.a, x.b); k != x.k || ok != x.ok {
			t.Error(x, k, ok)
		}
	}
}

// P23.2, P23.3
func TestMeetsFailsHolds(t *testing.T) {
	con := api.Con{X: 0, Y: 1, Form: 1, Range: to(1, 2)}
	n := net(2, con, api.Con{X: 1, Y: 0, Range: api.Range{High: -5, HasHigh: true}}, api.Con{X: 1, Y: 1, Form: 1})
	for _, x := range []struct {
		ticks []int
		fails []int
	}{
		{[]int{3, 9}, nil}, {[]int{3, 4}, []int{0, 1}}, {[]int{3, 5}, []int{0, 1, 2}}, {[]int{4, 7}, []int{1}}, {[]int{0, 14}, nil}, {[]int{0, 21}, []int{0}}, {[]int{5, 14}, []int{0}}, {[]int{9, 3}, []int{0, 1}},
	} {
		l, e := Fails(n, x.ticks)
		if !slices.Equal(l, x.fails) || e != api.OK || Holds(n, x.ticks) != (len(l) == 0) {
			t.Error(x, l, e)
		}
		for i, c := range n.Cons {
			if Meets(n, c, x.ticks) == slices.Contains(l, i) {
				t.Error(x, i)
			}
		}
	}
	for _, ticks := range [][]int{nil, {3}, {3, 9, 10}, {3, top + 1}, {-top - 1, 3}, {math.MinInt, math.MaxInt}} {
		if l, e := Fails(n, ticks); l != nil || e != api.ErrNet {
			t.Error(ticks, l, e)
		}
		if Holds(n, ticks) || Meets(n, con, ticks) {
			t.Error(ticks)
		}
	}
	if l, e := Fails(net(0), nil); l != nil || e != api.OK || !Holds(net(0), nil) || !Holds(net(1), []int{top}) {
		t.Error(l, e)
	}
	// A constraint that the network does not have.
	if !Meets(n, api.Con{X: 1, Y: 0, Form: 0, Range: to(-6, -6)}, []int{3, 9}) || Meets(n, api.Con{X: 1, Y: 0, Form: 0, Range: to(-5, -6)}, []int{3, 9}) || !Meets(n, api.Con{X: 0, Y: 0, Range: any}, []int{5, 9}) {
		t.Error("other constraints")
	}
	for _, c := range []api.Con{{X: 2}, {Y: -1}, {Form: 2}, {Form: -1}} {
		if Meets(n, c, []int{3, 9}) {
			t.Error(c)
		}
	}
	if !Meets(n, api.Con{Range: to(0, math.MaxInt64)}, []int{3, 9}) || !Meets(n, api.Con{Range: to(math.MinInt64, 0)}, []int{3, 9}) {
		t.Error("wide ranges")
	}
}

// P23.4
func TestConsequences(t *testing.T) {
	rng := rand.New(rand.NewSource(23))
	f := with(form(9, set(0, 1), nil, set(4, 6)), api.Granule{Index: 0, Ticks: set(1, 2)}, api.Granule{Index: 2})
	for range 5000 {
		a, b, c := rng.Intn(40)-20, rng.Intn(40)-20, rng.Intn(40)-20
		k, ok := Distance(f, a, b)
		if back, there := Distance(f, b, a); back != -k || there != ok {
			t.Fatal(a, b)
		}
		m, more := Distance(f, b, c)
		if n, there := Distance(f, a, c); ok && more && (!there || n != k+m) {
			t.Fatal(a, b, c)
		}
		_, here := Distance(f, a, a)
		_, there := Distance(f, b, b)
		if n := (api.Net{Vars: 2, Forms: []api.Form{f}, Cons: []api.Con{{X: 0, Y: 1}}}); Holds(n, []int{a, b}) != (here && there) {
			t.Fatal(a, b)
		}
	}
}

// R1: networks that are none do no harm.
func TestWrongNets(t *testing.T) {
	for _, n := range []api.Net{{Vars: 2, Forms: []api.Form{{Count: 5}, form(-3, set(5, 1))}, Cons: []api.Con{{X: 0, Y: 1}, {X: 0, Y: 1, Form: 1}, {X: 7}, {Y: -1}, {Form: 9}}}, {Vars: 2}, {Vars: -2, Cons: []api.Con{{}}}} {
		Right(n)
		Fails(n, []int{0, 1})
		Holds(n, []int{0, 1})
		Fails(n, nil)
		Meets(n, api.Con{X: 0, Y: 1}, []int{0, 1})
	}
}
