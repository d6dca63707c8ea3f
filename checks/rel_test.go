package checks

import (
	"math/rand"
	"slices"
	"testing"

	"epact/api"
	"epact/canon"
	"epact/combine"
	"epact/groups"
	"epact/rel"
)

// kin makes up a form that another one has some relation to.
func kin(rng *rand.Rand, f api.Form) api.Form {
	g := f
	switch rng.Intn(7) {
	case 0:
		g = fewer(rng, f)
	case 1:
		g, _ = groups.Group(f, 1+rng.Intn(4))
	case 2:
		g, _ = groups.Shift(f, rng.Intn(9)-4)
	case 3:
		g, _ = groups.Group(f, 1+rng.Intn(3))
		g = fewer(rng, g)
	case 4:
		g, _ = combine.Form(anyForm(rng), f)
	case 5:
		g = related(rng, f)
	default:
		g = anyForm(rng)
	}
	return g
}

// closeTo is all sets of a form that are granules and have ticks close to 0, as lists of these.
func closeTo(f api.Form, within int) [][]int {
	var sets [][]int
	for i := -5 * within; i <= 5*within; i++ {
		l := ticks(f, i)
		if len(l) > 0 && l[0].From > -within && l[len(l)-1].To < within {
			sets = append(sets, list(l))
		}
	}
	return sets
}

// P20.1 to P20.4
func TestRel(t *testing.T) {
	rng := rand.New(rand.NewSource(20))
	yes := map[string]int{}
	for range 700 {
		a := anyForm(rng)
		b := kin(rng, a)
		if rng.Intn(3) == 0 {
			a, b = b, a
		}
		as, bs := closeTo(a, 200), closeTo(b, 200)
		finer, into, sub := true, true, true
		for _, own := range as {
			if own[0] < -130 || own[len(own)-1] > 130 {
				continue
			}
			within, same := false, false
			for _, other := range bs {
				within = within || inside(own, other)
				same = same || slices.Equal(own, other)
			}
			finer, sub = finer && within, sub && same
		}
		for _, own := range bs {
			if own[0] < -130 || own[len(own)-1] > 130 {
				continue
			}
			got := map[int]bool{}
			for _, other := range as {
				if inside(other, own) {
					for _, t := range other {
						got[t] = true
					}
				}
			}
			into = into && len(got) == len(own)
		}
		on := func(f api.Form) bool {
			c := canon.Form(f)
			return c.Count > 0 && len(c.Odd) == 0
		}
		for what, x := range map[string]struct {
			do   func(a, b api.Form) (bool, api.Errno)
			want bool
		}{"finer": {rel.Finer, finer}, "into": {rel.Into, into}, "parts": {rel.Parts, finer && into}, "sub": {rel.Sub, sub}, "turns": {rel.Turns, into && on(a) && on(b)}} {
			got, e := x.do(a, b)
			if e != api.OK || got != x.want {
				t.Fatal(what, a, b, got, e)
			}
			if got {
				yes[what]++
			}
		}
		by, ok := rel.Shift(a, b)
		found := false
		for s := -40; s <= 40 && !found; s++ {
			found = true
			for i := -3 * reach; i <= 3*reach && found; i++ {
				found = slices.Equal(ticks(a, i), ticks(b, i+s))
			}
			if found && (!ok || by != s) && len(as)+len(bs) > 0 {
				t.Fatal(a, b, by, ok, s)
			}
		}
		if ok != found {
			t.Fatal(a, b, by, ok)
		}
		if ok {
			yes["shift"]++
		}
	}
	for _, what := range []string{"finer", "into", "parts", "sub", "turns", "shift"} {
		if yes[what] < 20 {
			t.Error(what, yes[what])
		}
	}
}
