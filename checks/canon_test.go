package checks

import (
	"math/rand"
	"slices"
	"testing"

	"epact/api"
	"epact/canon"
	"epact/gran"
	"epact/spans"
)

// alike reports whether two made-up forms have the same ticks for all indices that are not too far away.
func alike(f, g api.Form) bool {
	for i := -3 * reach; i <= 3*reach; i++ {
		if !slices.Equal(ticks(f, i), ticks(g, i)) {
			return false
		}
	}
	return true
}

// equal reports whether two forms are represented in the same way.
func equal(f, g api.Form) bool {
	return f.Period == g.Period && f.Count == g.Count && slices.EqualFunc(f.Core, g.Core, spans.Same) &&
		slices.EqualFunc(f.Odd, g.Odd, func(a, b api.Granule) bool { return a.Index == b.Index && spans.Same(a.Ticks, b.Ticks) })
}

// P6.1 to P6.3
func TestCanon(t *testing.T) {
	t.Parallel()
	rng := rand.New(rand.NewSource(6))
	same := 0
	for range 20000 {
		f := anyForm(rng)
		g := f
		switch rng.Intn(3) {
		case 0:
			g = twice(rng, f)
		case 1:
			g = related(rng, f)
		}
		c, d := canon.Form(f), canon.Form(g)
		if !alike(f, c) || gran.Right(c) != api.OK || !canon.Is(c) || !equal(canon.Form(c), c) || canon.Is(f) != equal(f, c) {
			t.Fatal(f, c)
		}
		if c.Count > f.Count || c.Period > f.Period || len(c.Odd) > len(f.Odd) || gran.Size(c) > gran.Size(f) {
			t.Fatal(f, c)
		}
		if canon.Same(f, g) != alike(f, g) || equal(c, d) != alike(f, g) {
			t.Fatal(f, g)
		}
		if equal(c, d) {
			same++
		}
	}
	if same < 1000 || same > 19000 {
		t.Error(same)
	}
}
