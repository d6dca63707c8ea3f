package checks

import (
	"math/rand"
	"slices"
	"testing"

	"epact/api"
	"epact/canon"
	"epact/gran"
	"epact/sample"
)

// Forms are written in short.
var (
	equal = sample.Equal
)

// alike reports whether two made-up forms have the same ticks for all indices that are not too far away.
func alike(f, g api.Form) bool {
	for i := -3 * reach; i <= 3*reach; i++ {
		if !slices.Equal(ticks(f, i), ticks(g, i)) {
			return false
		}
	}
	return true
}

// P6.1 to P6.3
func TestCanon(t *testing.T) {
	t.Parallel()
	rng := rand.New(rand.NewSource(6))
	same := 0
	for range 20000 {
		f := anyForm(rng)
		g := f
		switch rng.Intn(3) {
		case 0:
			g = twice(rng, f)
		case 1:
			g = related(rng, f)
		}
		c, d := canon.Form(f), canon.Form(g)
		if !alike(f, c) || gran.Right(c) != api.OK || !canon.Is(c) || !equal(canon.Form(c), c) || canon.Is(f) != equal(f, c) {
			t.Fatal(f, c)
		}
		if c.Count > f.Count || c.Period > f.Period || len(c.Odd) > len(f.Odd) || gran.Size(c) > gran.Size(f) {
			t.Fatal(f, c)
		}
		if canon.Same(f, g) != alike(f, g) || equal(c, d) != alike(f, g) {
			t.Fatal(f, g)
		}
		if equal(c, d) {
			same++
		}
	}
	if same < 1000 || same > 19000 {
		t.Error(same)
	}
}
