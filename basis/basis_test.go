package basis

import (
	"slices"
	"sync"
	"testing"

	"epact/api"
	"epact/civil"
	"epact/gran"
)

// P8.1
func TestNames(t *testing.T) {
	want := []string{"tick", "day", "week", "month", "quarter", "year"}
	l := Names()
	if !slices.Equal(l, want) {
		t.Error(l)
	}
	l[0] = "hour"
	if !slices.Equal(Names(), want) {
		t.Error("shared")
	}
}

// P8.1
func TestForm(t *testing.T) {
	c := New()
	for _, x := range []struct {
		name          string
		period, count int
		at            int
		span          api.Span
	}{
		{"tick", 1, 1, 0, api.Span{}}, {"day", 1, 1, 0, api.Span{}}, {"week", 7, 1, 0, api.Span{From: -3, To: 3}},
		{"month", 146097, 4800, 0, api.Span{To: 30}}, {"month", 146097, 4800, 1, api.Span{From: 31, To: 58}}, {"month", 146097, 4800, 25, api.Span{From: 761, To: 789}},
		{"quarter", 146097, 1600, 0, api.Span{To: 89}}, {"quarter", 146097, 1600, 1, api.Span{From: 90, To: 180}}, {"quarter", 146097, 1600, 1599, api.Span{From: 146005, To: 146096}},
		{"year", 146097, 400, 0, api.Span{To: 364}}, {"year", 146097, 400, 1, api.Span{From: 365, To: 729}}, {"year", 146097, 400, 2, api.Span{From: 730, To: 1095}}, {"year", 146097, 400, 399, api.Span{From: 145732, To: 146096}},
	} {
		f, e := c.Form(x.name)
		if e != api.OK || f.Period != x.period || f.Count != x.count || len(f.Core) != x.count || len(f.Odd) != 0 || !slices.Equal(f.Core[x.at], []api.Span{x.span}) {
			t.Error(x, f.Period, f.Count, e)
		}
	}
	for _, name := range []string{"hour", "", "Day", "day ", "months"} {
		if f, e := c.Form(name); e != api.ErrName || f.Period != 0 || f.Count != 0 || f.Core != nil {
			t.Error(name, e)
		}
	}
}

// P8.1: each month is as the dates say.
func TestMonths(t *testing.T) {
	f, _ := New().Form("month")
	for i := -12 * 2000; i <= 12*6000; i += 7 {
		l, e := gran.Get(f, i)
		year, month := 1970+i/12, i%12
		if month < 0 {
			year, month = year-1, month+12
		}
		first, _ := civil.Days(int64(year), month+1, 1)
		if e != api.OK || len(l) != 1 || l[0].From != int(first) || l[0].To-l[0].From+1 != civil.Length(int64(year), month+1) {
			t.Fatal(i, l, e)
		}
	}
}

// P8.2
func TestRight(t *testing.T) {
	c := New()
	for _, name := range Names() {
		f, e := c.Form(name)
		if e != api.OK || gran.Right(f) != api.OK {
			t.Error(name, e)
		}
		last, _ := gran.Get(f, -1)
		for i := range f.Count + 1 {
			l, _ := gran.Get(f, i)
			if len(l) != 1 || l[0].From != last[0].To+1 {
				t.Fatal(name, i, l)
			}
			last = l
		}
	}
}

// P8.1
func TestMade(t *testing.T) {
	c := New()
	for i, step := range []struct {
		name string
		n    int
	}{{"hour", 0}, {"day", 1}, {"day", 1}, {"tick", 2}, {"", 2}, {"month", 3}, {"month", 3}} {
		c.Form(step.name)
		if c.Made() != step.n {
			t.Error(i, step, c.Made())
		}
	}
	if New().Made() != 0 {
		t.Error("calendars share what was made")
	}
}

// P8.2
func TestAll(t *testing.T) {
	c := New()
	names := append(Names(), "hour", "day", "day", "")
	for range 100 {
		names = append(names, "week", "year")
	}
	var wg sync.WaitGroup
	for range 8 {
		wg.Go(func() {
			forms, wrongs := c.All(names)
			if len(forms) != len(names) || len(wrongs) != len(names) {
				t.Error(len(forms), len(wrongs))
				return
			}
			for i, name := range names {
				f, e := New().Form(name)
				if wrongs[i] != e || forms[i].Period != f.Period || !slices.EqualFunc(forms[i].Core, f.Core, slices.Equal) {
					t.Error(name, wrongs[i])
				}
			}
		})
	}
	wg.Wait()
	if c.Made() != 6 {
		t.Error(c.Made())
	}
	if forms, wrongs := c.All(nil); len(forms) != 0 || len(wrongs) != 0 {
		t.Error(forms, wrongs)
	}
}

// R3, R5
func TestObjects(t *testing.T) {
	c := New()
	f, _ := c.Form("week")
	f.Core[0][0].From = 99
	if g, _ := c.Form("week"); g.Core[0][0].From != -3 {
		t.Error(g)
	}
	forms, _ := c.All([]string{"week", "week"})
	forms[0].Core[0][0].From = 99
	if forms[1].Core[0][0].From != -3 {
		t.Error(forms)
	}
	other := *c
	for _, bad := range []*Calendar{nil, {}, &other} {
		if f, e := bad.Form("day"); e != api.ErrNil || f.Core != nil || f.Period != 0 {
			t.Error(f, e)
		}
		if _, e := bad.Form("hour"); e != api.ErrNil {
			t.Error(e)
		}
		if bad.Made() != 0 {
			t.Error(bad.Made())
		}
		if forms, wrongs := bad.All([]string{"day", "hour"}); len(forms) != 2 || forms[0].Core != nil || !slices.Equal(wrongs, []api.Errno{api.ErrNil, api.ErrNil}) {
			t.Error(forms, wrongs)
		}
	}
}
