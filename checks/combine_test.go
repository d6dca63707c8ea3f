package checks

import (
	"math/rand"
	"slices"
	"testing"

	"epact/api"
	"epact/canon"
	"epact/combine"
)

// couple makes up two forms, which are often related.
func couple(rng *rand.Rand) (api.Form, api.Form) {
	a := anyForm(rng)
	b := anyForm(rng)
	if rng.Intn(3) == 0 {
		b = related(rng, a)
	}
	if rng.Intn(2) == 0 {
		a, b = b, a
	}
	return a, b
}

// far is how many indices of a form are near 0: granules beyond have nothing to do with those that are looked at.
const far = 400

// all is the sets of a form near 0 that are granules, as lists of ticks, by their indices.
func all(f api.Form) map[int][]int {
	m := map[int][]int{}
	for i := -far; i <= far; i++ {
		if l := list(ticks(f, i)); len(l) > 0 {
			m[i] = l
		}
	}
	return m
}

// inside reports whether all of a is in b.
func inside(a, b []int) bool {
	for _, t := range a {
		if _, ok := slices.BinarySearch(b, t); !ok {
			return false
		}
	}
	return true
}

// meets reports whether some of a is in b.
func meets(a, b []int) bool {
	for _, t := range a {
		if _, ok := slices.BinarySearch(b, t); ok {
			return true
		}
	}
	return false
}

// near reports whether all ticks of a set are near 0.
func near(l []int) bool {
	return len(l) == 0 || l[0] > -75 && l[len(l)-1] < 75
}

// P15.2 to P15.4
func TestCombine(t *testing.T) {
	t.Parallel()
	rng := rand.New(rand.NewSource(15))
	for range 1200 {
		a, b := couple(rng)
		f, e := combine.Form(a, b)
		if e != api.OK {
			t.Fatal(a, b, e)
		}
		if !canon.Is(f) {
			t.Fatal(f)
		}
		sets := all(b)
		for i := -reach; i <= reach; i++ {
			own := list(ticks(a, i))
			if !near(own) {
				continue
			}
			var want []int
			for _, l := range sets {
				if inside(l, own) {
					want = append(want, l...)
				}
			}
			if l, e := combine.At(a, b, i); e != api.OK || !slices.Equal(l, packed(want)) {
				t.Fatal("at", a, b, i, l, want)
			}
			if !slices.Equal(ticks(f, i), packed(want)) {
				t.Fatal(a, b, f, i, want)
			}
		}
		if g, e := combine.Form(f, b); e != api.OK || !equal(f, g) {
			t.Fatal("again", a, b, e)
		}
		if g, e := combine.Form(a, a); e != api.OK || !equal(canon.Form(a), g) {
			t.Fatal("itself", a, e)
		}
	}
}

// P15.1: what is affected, straight from the words.
func TestTouched(t *testing.T) {
	t.Parallel()
	rng := rand.New(rand.NewSource(16))
	for range 1500 {
		a, b := couple(rng)
		zone := map[int]bool{}
		add := func(l []api.Span) {
			for _, t := range list(l) {
				zone[t] = true
			}
		}
		for _, f := range []api.Form{a, b} {
			for _, o := range f.Odd {
				add(o.Ticks)
				add(bare(f, o.Index))
			}
		}
		touches := func(l []int) bool { return slices.ContainsFunc(l, func(t int) bool { return zone[t] }) }
		var more [][]api.Span
		for i := -far; i <= far; i++ {
			for _, l := range [][]api.Span{ticks(b, i), bare(b, i)} {
				if touches(list(l)) {
					more = append(more, l)
				}
			}
		}
		for _, l := range more {
			add(l)
		}
		var want []int
		for i := -far; i <= far; i++ {
			odd := slices.ContainsFunc(a.Odd, func(g api.Granule) bool { return g.Index == i })
			if odd || touches(list(ticks(a, i))) || touches(list(bare(a, i))) {
				want = append(want, i)
			}
		}
		if l, e := combine.Touched(a, b); e != api.OK || !slices.Equal(l, want) {
			t.Fatal(a, b, l, want, e)
		}
	}
}
