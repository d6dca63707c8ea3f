package prop

import (
	"math"
	"slices"
	"testing"

	"epact/api"
	"epact/basis"
	"epact/sample"
)

// Forms are written in short.
var (
	set  = sample.Set
	form = sample.Form
	to   = sample.Range
)

func from(low int64) api.Range  { return api.Range{Low: low, HasLow: true} }
func upto(high int64) api.Range { return api.Range{High: high, HasHigh: true} }

var (
	days = form(1, set(0, 0))
	work = form(7, set(0, 4))
	inf  = api.Bound{Inf: 1}
)

func num(n int) api.Bound { return api.Bound{N: n} }

// three is a network: b is above a by a week, c above b by 2 to 3 days.
func three(more ...api.Con) api.Net {
	return api.Net{Vars: 3, Forms: []api.Form{days, work}, Cons: append([]api.Con{{X: 0, Y: 1, Form: 1, Range: to(1, 1)}, {X: 1, Y: 2, Form: 0, Range: to(2, 3)}}, more...)}
}

// P26.1
func TestMeet(t *testing.T) {
	for _, x := range []struct {
		a, b, r api.Range
		ok      bool
	}{
		{to(1, 5), to(3, 9), to(3, 5), true}, {to(1, 5), to(5, 9), to(5, 5), true}, {to(1, 4), to(5, 9), api.Range{}, false}, {to(1, 9), to(3, 5), to(3, 5), true}, {api.Range{}, to(3, 5), to(3, 5), true}, {api.Range{}, api.Range{}, api.Range{}, true},
		{from(3), upto(5), to(3, 5), true}, {from(3), upto(2), api.Range{}, false}, {from(3), from(-4), from(3), true}, {upto(3), upto(-4), upto(-4), true}, {from(-2), api.Range{}, from(-2), true}, {upto(0), from(0), to(0, 0), true}, {to(5, 1), api.Range{}, api.Range{}, false}, {to(5, 1), to(5, 1), api.Range{}, false},
		{api.Range{Low: 9, High: -9}, to(3, 5), to(3, 5), true}, {api.Range{Low: 9, High: -9}, api.Range{Low: 7}, api.Range{}, true}, {api.Range{Low: 9, High: 4, HasHigh: true}, api.Range{}, upto(4), true}, {to(math.MinInt64, math.MaxInt64), to(math.MinInt64, math.MaxInt64), to(math.MinInt64, math.MaxInt64), true},
	} {
		for _, y := range [][2]api.Range{{x.a, x.b}, {x.b, x.a}} {
			if r, ok := Meet(y[0], y[1]); r != x.r || ok != x.ok {
				t.Error(x, r, ok)
			}
		}
	}
}

// P26.2
func TestRound(t *testing.T) {
	n, d, ok, e := Round(three(api.Con{X: 0, Y: 2, Form: 1}))
	if e != api.OK || !ok || d[0][2] != num(14) || d[2][0] != num(-5) || d[0][1] != num(11) || d[1][0] != num(-3) || d[0][0] != num(0) {
		t.Error(d, ok, e)
	}
	if n.Vars != 3 || len(n.Forms) != 2 || len(n.Cons) != 3 || n.Cons[0].Range != to(1, 1) || n.Cons[1].Range != to(2, 3) || n.Cons[2] != (api.Con{X: 0, Y: 2, Form: 1, Range: to(1, 2)}) {
		t.Error(n.Cons)
	}
	for i, bad := range []api.Net{three(api.Con{X: 0, Y: 2, Range: from(20)}), three(api.Con{X: 0, Y: 0, Range: to(1, 1)}), three(api.Con{X: 0, Y: 1, Range: to(7, 5)}), {Vars: 1, Forms: []api.Form{{}}, Cons: []api.Con{{}}}, three(api.Con{X: 0, Y: 2, Form: 1, Range: to(5, 5)})} {
		if n, d, ok, e := Round(bad); e != api.OK || ok || d != nil || n.Vars != 0 || n.Cons != nil || n.Forms != nil {
			t.Error(i, n, d, ok, e)
		}
	}
	for i, bad := range []api.Net{{Vars: 25}, three(api.Con{X: 3}), {Vars: 1, Forms: []api.Form{{Count: 3}}}} {
		if n, d, ok, e := Round(bad); e != api.ErrNet || ok || d != nil || n.Vars != 0 || n.Forms != nil {
			t.Error(i, n, d, ok, e)
		}
	}
	if n, d, ok, e := Round(api.Net{}); e != api.OK || !ok || len(d) != 0 || n.Vars != 0 {
		t.Error(n, d, ok, e)
	}
	if _, d, ok, e := Round(api.Net{Vars: 2}); e != api.OK || !ok || d[0][1] != inf || d[1][1] != num(0) {
		t.Error(d, ok, e)
	}
}

// P26.2: a granularity with one granule: no more than that one.
func TestOne(t *testing.T) {
	one := api.Form{Odd: []api.Granule{{Index: 4, Ticks: set(5, 9)}}}
	n, d, ok, e := Round(api.Net{Vars: 2, Forms: []api.Form{one}, Cons: []api.Con{{X: 0, Y: 1, Range: to(-3, 0)}}})
	if e != api.OK || !ok || d[0][1] != num(4) || d[1][0] != num(4) || n.Cons[0].Range != to(0, 0) {
		t.Error(n, d, ok, e)
	}
}

// P26.3
func TestRun(t *testing.T) {
	week := api.Con{X: 0, Y: 2, Form: 1, Range: from(2)}
	s, e := Run(three(week, api.Con{X: 0, Y: 2, Form: 0, Range: upto(9)}), 10)
	if e != api.OK || s.Kind != api.SpreadOdd || s.Rounds != 1 {
		t.Error(s, e)
	}
	s, e = Run(three(api.Con{X: 0, Y: 2, Form: 1}), 10)
	if e != api.OK || s.Kind != api.SpreadDone || s.Rounds != 2 || s.Net.Cons[2].Range != to(1, 2) || s.Ticks[0][2] != num(14) {
		t.Error(s, e)
	}
	s, e = Run(three(api.Con{X: 0, Y: 2, Form: 1}), 1)
	if e != api.OK || s.Kind != api.SpreadCut || s.Rounds != 1 || s.Net.Cons[2].Range != to(1, 2) || s.Ticks[0][2] != num(14) {
		t.Error(s, e)
	}
	s, e = Run(three(), 1)
	if e != api.OK || s.Kind != api.SpreadDone || s.Rounds != 1 || len(s.Net.Forms) != 2 {
		t.Error(s, e)
	}
	s, e = Run(three(api.Con{X: 0, Y: 2, Range: from(20)}), 1000)
	if e != api.OK || s.Kind != api.SpreadOdd || s.Rounds != 1 || s.Ticks != nil || s.Net.Vars != 0 || s.Net.Forms != nil || s.Net.Cons != nil {
		t.Error(s, e)
	}
	for _, rounds := range []int{0, -1, 1001, math.MinInt, math.MaxInt} {
		if s, e := Run(three(), rounds); e != api.ErrArg || s.Kind != 0 || s.Ticks != nil {
			t.Error(rounds, s, e)
		}
		if s, e := Run(api.Net{Vars: -1}, rounds); e != api.ErrNet || s.Kind != 0 {
			t.Error(rounds, s, e)
		}
	}
	if s, e := Run(api.Net{}, 1000); e != api.OK || s.Kind != api.SpreadDone || s.Rounds != 1 || len(s.Ticks) != 0 {
		t.Error(s, e)
	}
}

// P26.3: rounds that take long to find an inconsistency, as each one narrows two ranges by little.
func TestLong(t *testing.T) {
	weeks := form(7, set(0, 0))
	n := api.Net{Vars: 2, Forms: []api.Form{days, weeks, form(11, set(0, 0))}, Cons: []api.Con{{X: 0, Y: 1, Form: 1, Range: to(1, 1000000)}, {X: 0, Y: 1, Form: 2, Range: to(1, 1000000)}, {X: 0, Y: 1, Form: 0, Range: to(1, 76)}}}
	s, e := Run(n, 1000)
	if e != api.OK || s.Kind != api.SpreadOdd || s.Rounds < 3 {
		t.Error(s.Kind, s.Rounds, e)
	}
	whole := s.Rounds
	for rounds := 1; rounds <= whole+1; rounds++ {
		s, e := Run(n, rounds)
		if rounds < whole && (s.Kind != api.SpreadCut || s.Rounds != rounds) || rounds >= whole && (s.Kind != api.SpreadOdd || s.Rounds != whole) || e != api.OK {
			t.Error(rounds, s.Kind, s.Rounds, e)
		}
	}
	m := n
	for range whole - 1 {
		next, _, ok, _ := Round(m)
		if !ok {
			t.Fatal("too early")
		}
		m = next
	}
	if _, _, ok, _ := Round(m); ok {
		t.Error("too late")
	}
}

// Great networks are done in time.
func TestGreat(t *testing.T) {
	c := basis.New()
	n := api.Net{Vars: 24}
	for _, name := range []string{"day", "week", "month", "quarter", "year"} {
		f, _ := c.Form(name)
		n.Forms = append(n.Forms, f)
	}
	for i := range 200 {
		x, y := i%24, (i*7+5)%24
		if x > y {
			x, y = y, x
		}
		n.Cons = append(n.Cons, api.Con{X: x, Y: y, Form: i % 5, Range: to(int64(y-x)*[]int64{30, 4, 1, 0, 0}[i%5], int64(y-x)*[]int64{3000, 400, 100, 30, 9}[i%5]+int64(i))})
	}
	s, e := Run(n, 1000)
	if e != api.OK || s.Kind != api.SpreadDone {
		t.Error(s.Kind, s.Rounds, e)
	}
}

// R3
func TestOwnMemory(t *testing.T) {
	n := three(api.Con{X: 0, Y: 2, Form: 1})
	n.Forms[1] = api.Form{Period: 7, Count: 1, Core: [][]api.Span{set(0, 4)}, Odd: []api.Granule{{Index: 5, Ticks: set(35, 36)}}}
	s, _ := Run(n, 10)
	r, _, _, _ := Round(n)
	for _, m := range []api.Net{s.Net, r} {
		m.Forms[1].Core[0][0].From, m.Forms[1].Odd[0].Ticks[0].From, m.Forms[1].Odd[0].Index, m.Cons[0].X = 9, 9, 9, 9
		m.Forms[0] = api.Form{}
	}
	if f := n.Forms[1]; f.Core[0][0].From != 0 || f.Odd[0].Ticks[0].From != 35 || f.Odd[0].Index != 5 || n.Cons[0].X != 0 || n.Cons[2].Range != (api.Range{}) || n.Forms[0].Count != 1 {
		t.Error(n)
	}
	if !slices.Equal(n.Forms[0].Core[0], set(0, 0)) {
		t.Error(n)
	}
}
