package checks

import (
	"math/rand"
	"slices"
	"testing"

	"epact/api"
	"epact/canon"
	"epact/sets"
)

// P18.1 to P18.3
func TestSets(t *testing.T) {
	rng := rand.New(rand.NewSource(19))
	fine, unlike := 0, 0
	for range 5000 {
		whole := anyForm(rng)
		a, b := fewer(rng, whole), fewer(rng, whole)
		if rng.Intn(4) == 0 {
			a, b = couple(rng)
		}
		same := true
		for i := -3 * reach; i <= 3*reach; i++ {
			x, y := ticks(a, i), ticks(b, i)
			same = same && (len(x) == 0 || len(y) == 0 || slices.Equal(x, y))
		}
		alike, e := sets.Alike(a, b)
		if e == api.ErrShape {
			c, d := canon.Form(a), canon.Form(b)
			if c.Count == 0 || d.Count == 0 || c.Period*d.Count == d.Period*c.Count {
				t.Fatal(a, b)
			}
			continue
		}
		if e != api.OK || alike != same {
			t.Fatal(a, b, alike, e)
		}
		for what, x := range map[string]struct {
			do   func(a, b api.Form) (api.Form, api.Errno)
			want func(x, y []api.Span) []api.Span
		}{
			"union": {sets.Union, func(x, y []api.Span) []api.Span {
				if len(x) == 0 {
					return y
				}
				return x
			}},
			"cut": {sets.Cut, func(x, y []api.Span) []api.Span {
				if len(y) == 0 {
					return nil
				}
				return x
			}},
			"less": {sets.Less, func(x, y []api.Span) []api.Span {
				if len(y) > 0 {
					return nil
				}
				return x
			}},
		} {
			f, e := x.do(a, b)
			last, orderly := -1<<40, true
			for i := -3 * reach; i <= 3*reach; i++ {
				for _, s := range x.want(ticks(a, i), ticks(b, i)) {
					orderly = orderly && s.From > last
					last = s.To
				}
			}
			if !same || !orderly {
				if e != api.ErrShape || f.Core != nil || f.Odd != nil {
					t.Fatal(what, a, b, e)
				}
				unlike++
				continue
			}
			if e != api.OK {
				t.Fatal(what, a, b, e)
			}
			fine++
			says(t, f, 2*reach, func(i int) []api.Span { return x.want(ticks(a, i), ticks(b, i)) })
		}
		if u, e := sets.Union(a, b); e == api.OK {
			v, _ := sets.Union(b, a)
			both, _ := sets.Cut(a, b)
			rest, _ := sets.Less(a, b)
			back, e := sets.Union(both, rest)
			if !equal(u, v) || e != api.OK || !equal(back, canon.Form(a)) {
				t.Fatal(a, b)
			}
		}
	}
	if fine < 3000 || unlike < 300 {
		t.Error(fine, unlike)
	}
}
