package checks

import (
	"math/rand"
	"testing"

	"epact/anchor"
	"epact/api"
	"epact/canon"
	"epact/choose"
	"epact/combine"
	"epact/gran"
	"epact/groups"
	"epact/rel"
	"epact/sets"
	"epact/size"
)

// P1: where ticks are made longer nothing changes but that; or there is not enough room for them, and that is an error.
func TestStretched(t *testing.T) {
	t.Parallel()
	rng := rand.New(rand.NewSource(41))
	done := 0
	for range 3000 {
		a := anyForm(rng)
		b := kin(rng, a)
		by := api.MaxTick / (20 + rng.Intn(400))
		c, d := stretched(a, by), stretched(b, by)
		if gran.Right(c) != api.OK || gran.Right(d) != api.OK {
			continue
		}
		for what, do := range map[string]func(f, g api.Form) (api.Form, api.Errno){
			"canon":   func(f, _ api.Form) (api.Form, api.Errno) { return canon.Form(f), api.OK },
			"group":   func(f, _ api.Form) (api.Form, api.Errno) { return groups.Group(f, 3) },
			"shift":   func(f, _ api.Form) (api.Form, api.Errno) { return groups.Shift(f, 2) },
			"subset":  func(f, _ api.Form) (api.Form, api.Errno) { return groups.Subset(f, -2, 5) },
			"combine": combine.Form, "anchor": anchor.Form, "union": sets.Union, "cut": sets.Cut, "less": sets.Less, "up": choose.Up,
		} {
			f, wrong := do(a, b)
			g, e := do(c, d)
			if e == api.ErrRange || e == api.ErrShape && (what == "union" || what == "cut" || what == "less") {
				continue // an exception of the plain form has nothing in range beside it
			}
			done++
			if e != wrong || e == api.OK && !equal(stretched(f, by), g) {
				t.Fatal(what, a, b, by, wrong, e)
			}
		}
		for what, do := range map[string]func(a, b api.Form) (bool, api.Errno){"finer": rel.Finer, "into": rel.Into, "parts": rel.Parts, "sub": rel.Sub, "turns": rel.Turns} {
			yes, wrong := do(a, b)
			far, e := do(c, d)
			if e != api.ErrRange && (yes != far || e != wrong) {
				t.Fatal(what, a, b, by, yes, far, e)
			}
		}
		s, ok := rel.Shift(a, b)
		if r, there := rel.Shift(c, d); r != s || there != ok {
			t.Fatal("shift", a, b, by)
		}
		for k := -3; k <= 3; k++ {
			n, ok, _ := size.Most(a, k)
			m, there, e := size.Most(c, k)
			if e != api.OK || there != ok || ok && m != (n+1)*by-1 {
				t.Fatal("most", a, k, n, m)
			}
			n, _, _ = size.Down(a, k)
			if m, _, _ := size.Down(c, k*by); ok && m < n-1 {
				t.Fatal("down", a, k, n, m)
			}
		}
	}
	if done < 5000 {
		t.Error(done)
	}
}
