package checks

import (
	"math/rand"
	"slices"
	"testing"

	"epact/api"
	"epact/canon"
	"epact/gran"
	"epact/groups"
)

// says checks that a form is canonical and right, and has what is said for the indices near 0.
func says(t *testing.T, f api.Form, far int, set func(i int) []api.Span) {
	t.Helper()
	if gran.Right(f) != api.OK || !canon.Is(f) {
		t.Fatal("not canonical", f)
	}
	for i := -far; i <= far; i++ {
		if want := set(i); !slices.Equal(ticks(f, i), want) {
			t.Fatal(f, i, want)
		}
	}
}

// P13.1 to P13.5
func TestGroups(t *testing.T) {
	t.Parallel()
	rng := rand.New(rand.NewSource(13))
	for range 3000 {
		f := anyForm(rng)
		m, n := 1+rng.Intn(7), 1+rng.Intn(4)
		g, e := groups.Group(f, m)
		if e != api.OK {
			t.Fatal(f, m, e)
		}
		says(t, g, 2*reach, func(i int) []api.Span {
			var all []int
			for j := range m {
				all = append(all, list(ticks(f, i*m+j))...)
			}
			return packed(all)
		})
		twice, _ := groups.Group(g, n)
		if once, _ := groups.Group(f, m*n); !equal(once, twice) {
			t.Fatal(f, m, n)
		}
		by := rng.Intn(30) - 15
		s, e := groups.Shift(f, by)
		if e != api.OK {
			t.Fatal(f, by, e)
		}
		says(t, s, 2*reach, func(i int) []api.Span { return ticks(f, i-by) })
		if back, _ := groups.Shift(s, -by); !equal(back, canon.Form(f)) {
			t.Fatal(f, by)
		}
		from := rng.Intn(20) - 15
		to := from + rng.Intn(15)
		p, e := groups.Subset(f, from, to)
		if e != api.OK {
			t.Fatal(f, from, to, e)
		}
		says(t, p, 2*reach, func(i int) []api.Span {
			if i < from || i > to {
				return nil
			}
			return ticks(f, i)
		})
		q, _ := groups.Subset(p, 0, 9)
		if max(from, 0) <= min(to, 9) {
			if r, _ := groups.Subset(f, max(from, 0), min(to, 9)); !equal(q, r) {
				t.Fatal(f, from, to)
			}
		} else if len(q.Odd) > 0 {
			t.Fatal(f, from, to)
		}
		for i := -5; i < 5; i++ {
			if l, e := groups.Raw(f, i); e != api.OK || !slices.Equal(l, bare(f, i)) {
				t.Fatal(f, i, l, e)
			}
		}
	}
}
