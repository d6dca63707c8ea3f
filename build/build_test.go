package build

import (
	"testing"

	"epact/alter"
	"epact/anchor"
	"epact/api"
	"epact/basis"
	"epact/canon"
	"epact/choose"
	"epact/combine"
	"epact/gran"
	"epact/groups"
	"epact/lex"
	"epact/parse"
	"epact/sample"
	"epact/sets"
)

// Forms are written in short.
var (
	set   = sample.Set
	form  = sample.Form
	equal = sample.Equal
)

func read(s string) api.Expr {
	l, _ := lex.Words(s)
	x, _, e := parse.Expr(l)
	if e != api.OK {
		panic(s)
	}
	return x
}

func bindings() []api.Binding {
	c := basis.New()
	var l []api.Binding
	for _, n := range basis.Names() {
		f, _ := c.Form(n)
		l = append(l, api.Binding{Name: n, Form: f})
	}
	return append(l, api.Binding{Name: "day", Form: form(9, set(0, 1))}, api.Binding{Name: "twice", Form: form(14, set(0, 4), set(7, 11))})
}

// P19.1
func TestFind(t *testing.T) {
	l := bindings()
	if f, e := Find(l, "day"); e != api.OK || !equal(f, form(1, set(0, 0))) {
		t.Error(f, e)
	}
	if f, e := Find(l, "twice"); e != api.OK || !equal(f, form(7, set(0, 4))) {
		t.Error(f, e)
	}
	for _, n := range []string{"", "Day", "day ", "night"} {
		if f, e := Find(l, n); e != api.ErrName || f.Count != 0 || f.Core != nil {
			t.Error(n, f, e)
		}
	}
	if _, e := Find(nil, "day"); e != api.ErrName {
		t.Error(e)
	}
}

// P19.2: each operator is what its layer does.
func TestForm(t *testing.T) {
	l := bindings()
	day, week, month, twice := l[1].Form, l[2].Form, l[3].Form, canon.Form(l[7].Form)
	one := func(f api.Form, e api.Errno) api.Form {
		if e != api.OK {
			t.Error(e)
		}
		return f
	}
	mondays := one(choose.Down(day, week, 1, 1))
	for s, want := range map[string]api.Form{
		"day": day, "month": month, "twice": twice,
		"group(7, day)":                                form(7, set(0, 6)),
		"shift(-2, month)":                             one(groups.Shift(month, -2)),
		"subset(-1, 1, week)":                          one(groups.Subset(week, -1, 1)),
		"alter(1, 0, 4, day, group(7, day))":           one(alter.Form(day, form(7, set(0, 6)), 1, 0, 4)),
		"combine(week, twice)":                         one(combine.Form(week, twice)),
		"anchor(day, down(1, 1, day, week))":           one(anchor.Form(day, mondays)),
		"down(1, 1, day, week)":                        mondays,
		"down(-2, 5, day, week)":                       one(choose.Down(day, week, -2, 5)),
		"up(week, twice)":                              one(choose.Up(week, twice)),
		"meet(-1, 1, week, shift(1, twice))":           one(choose.Meet(week, one(groups.Shift(twice, 1)), -1, 1)),
		"union(down(1,1,day,week), subset(3, 3, day))": one(sets.Union(mondays, one(groups.Subset(day, 3, 3)))),
		"cut(day, down(1, 1, day, week))":              mondays,
		"less(day, down(1, 1, day, week))":             one(sets.Less(day, mondays)),
		"group(3, group(4, month))":                    one(groups.Group(month, 12)),
		"group(12, month)":                             l[5].Form,
		"group(3, month)":                              l[4].Form,
	} {
		f, e := Form(read(s), l)
		if e != api.OK || !equal(f, want) || gran.Right(f) != api.OK || !canon.Is(f) {
			t.Error(s, e)
		}
	}
}

// P19.2: errors come in the order of the evaluation.
func TestErrors(t *testing.T) {
	l := bindings()
	for s, wrong := range map[string]api.Errno{
		"night": api.ErrName, "group(0, day)": api.ErrArg, "group(7, night)": api.ErrName, "union(night, group(0, day))": api.ErrName, "union(group(0, day), night)": api.ErrArg, "group(0, night)": api.ErrName,
		"alter(1, 2, 2, day, night)": api.ErrName, "alter(1, 2, 2, day, week)": api.ErrArg, "down(0, 1, group(6000, group(6000, group(6000, group(6000, day)))), day)": api.ErrRange, "subset(9, 1, day)": api.ErrArg,
		"down(1, 1, day, month)": api.ErrLong, "anchor(day, subset(3, 9, day))": api.ErrShape, "union(day, week)": api.ErrShape, "up(day, group(0, week))": api.ErrArg, "combine(night, day)": api.ErrName, "meet(0, 1, day, week)": api.ErrArg, "shift(1099511627777, day)": api.ErrArg,
	} {
		if f, e := Form(read(s), l); e != wrong || f.Count != 0 || f.Core != nil || f.Odd != nil {
			t.Error(s, e)
		}
	}
	for _, x := range []api.Expr{{}, {Name: "9"}, {Op: 99}, {Op: api.OpGroup, Args: []api.Expr{{Name: "night"}}}, {Op: api.OpUnion, Args: []api.Expr{{Name: "night"}, {Name: "a b"}}}, {Op: api.OpUnion, Args: []api.Expr{{Name: "night"}}}} {
		if f, e := Form(x, l); e != api.ErrArg || f.Count != 0 {
			t.Error(x, e)
		}
	}
}

// P19.3: what is meant in two ways has one form.
func TestSameMeaning(t *testing.T) {
	l := bindings()
	for _, x := range [][2]string{
		{"group(6, group(7, day))", "group(42, day)"}, {"shift(3, shift(-3, month))", "month"}, {"union(down(1, 1, day, week), down(2, 6, day, week))", "day"}, {"cut(week, up(week, day))", "week"}, {"less(day, less(day, subset(3, 5, day)))", "subset(3, 5, day)"},
		{"combine(week, day)", "week"}, {"anchor(week, week)", "week"}, {"alter(0, 0, 1, day, week)", "week"}, {"alter(2, 1, 3, day, alter(-2, 1, 3, day, week))", "week"}, {"meet(1, 1, day, day)", "tick"},
	} {
		f, e := Form(read(x[0]), l)
		g, wrong := Form(read(x[1]), l)
		if e != api.OK || wrong != api.OK || !equal(f, g) {
			t.Error(x, e, wrong)
		}
	}
}

// R3
func TestOwnMemory(t *testing.T) {
	l := []api.Binding{{Name: "a", Form: api.Form{Period: 7, Count: 1, Core: [][]api.Span{set(0, 4)}, Odd: []api.Granule{{Index: 1, Ticks: set(8, 9)}}}}}
	f, _ := Form(read("a"), l)
	g, _ := Find(l, "a")
	for _, h := range []api.Form{f, g} {
		h.Core[0][0].From, h.Odd[0].Ticks[0].From, h.Odd[0].Index = -9, -9, 5
	}
	if l[0].Form.Core[0][0].From != 0 || l[0].Form.Odd[0].Ticks[0].From != 8 || l[0].Form.Odd[0].Index != 1 {
		t.Error(l)
	}
	bad := []api.Binding{{Name: "a", Form: api.Form{Count: 5}}, {Name: "b", Form: form(-3, set(5, 1))}}
	for _, s := range []string{"a", "union(a, b)", "group(3, b)", "anchor(a, b)", "down(1, 1, a, b)", "alter(1, 0, 1, a, b)"} {
		Form(read(s), bad)
	}
}
