package checks

import (
	"math/rand"
	"slices"
	"testing"

	"epact/anchor"
	"epact/api"
	"epact/canon"
	"epact/gran"
)

// fewer makes up a form that has some of the granules of another one.
func fewer(rng *rand.Rand, f api.Form) api.Form {
	g := gran.Copy(f)
	for i := range g.Core {
		if rng.Intn(3) == 0 {
			g.Core[i] = nil
		}
	}
	for i, o := range g.Odd {
		if rng.Intn(3) == 0 || len(bare(g, o.Index)) == 0 && rng.Intn(2) == 0 {
			g.Odd[i].Ticks = nil
		}
	}
	for i := -4; i < 4; i++ {
		if rng.Intn(5) == 0 && !slices.ContainsFunc(g.Odd, func(o api.Granule) bool { return o.Index == i }) {
			g.Odd = append(g.Odd, api.Granule{Index: i})
		}
	}
	slices.SortFunc(g.Odd, func(a, b api.Granule) int { return a.Index - b.Index })
	if rng.Intn(2) == 0 {
		g = canon.Form(g)
	}
	return g
}

// isPart reports whether b is part of a, near 0.
func isPart(b, a api.Form) bool {
	for i := -3 * reach; i <= 3*reach; i++ {
		if l := ticks(b, i); len(l) > 0 && !slices.Equal(l, ticks(a, i)) {
			return false
		}
	}
	return true
}

// P16.2 to P16.5
func TestAnchor(t *testing.T) {
	t.Parallel()
	rng := rand.New(rand.NewSource(17))
	parts, forms := 0, 0
	for range 4000 {
		a, b := couple(rng)
		if rng.Intn(3) > 0 {
			b = fewer(rng, a)
		}
		part, e := anchor.Part(b, a)
		if e != api.OK || part != isPart(b, a) {
			t.Fatal(b, a, part, e)
		}
		if self, e := anchor.Part(a, a); e != api.OK || !self {
			t.Fatal(a, e)
		}
		f, e := anchor.Form(a, b)
		on := slices.ContainsFunc(b.Core, func(l []api.Span) bool { return len(l) > 0 })
		if (e == api.OK) != (part && on && a.Count > 0) || e != api.OK && e != api.ErrShape {
			t.Fatal(a, b, part, e)
		}
		if part {
			parts++
		}
		for i := -reach; i <= reach; i++ {
			next := i + 1
			for next < i+10*reach && len(ticks(b, next)) == 0 {
				next++
			}
			var want []int
			for j := i; j < next; j++ {
				want = append(want, list(ticks(a, j))...)
			}
			l, wrong := anchor.At(a, b, i)
			switch {
			case len(ticks(b, i)) == 0:
				want = nil
			case next == i+10*reach:
				if wrong != api.ErrShape {
					t.Fatal(a, b, i, wrong)
				}
				continue
			}
			if wrong != api.OK || !slices.Equal(l, packed(want)) {
				t.Fatal(a, b, i, l, wrong)
			}
			if e == api.OK && !slices.Equal(ticks(f, i), l) {
				t.Fatal(a, b, f, i, l)
			}
		}
		if e == api.OK {
			forms++
			if !canon.Is(f) {
				t.Fatal(f)
			}
			if own, e := anchor.Form(a, a); slices.ContainsFunc(a.Core, func(l []api.Span) bool { return len(l) > 0 }) && (e != api.OK || !equal(own, canon.Form(a))) {
				t.Fatal(a, own, e)
			}
		}
	}
	if parts < 1000 || parts > 3500 || forms < 500 {
		t.Error(parts, forms)
	}
}
