package checks

import (
	"math/rand"
	"slices"
	"testing"

	"epact/api"
	"epact/combine"
	"epact/conv"
	"epact/find"
	"epact/gran"
	"epact/spans"
)

// farForm makes up a form of which few granules are in range.
func farForm(rng *rand.Rand, by int) api.Form {
	for {
		f := anyForm(rng)
		if f.Count > 0 && f.Period*4 < f.Count {
			continue
		}
		if f = stretched(f, by); gran.Right(f) == api.OK {
			return f
		}
	}
}

// P7.3, P15.2, P21.1 to P21.3: near the limits of ticks, where granules end to exist.
func TestFar(t *testing.T) {
	t.Parallel()
	rng := rand.New(rand.NewSource(40))
	for range 1200 {
		by := api.MaxTick / (8 + rng.Intn(30))
		a, b := farForm(rng, by), farForm(rng, by)
		as, own := existing(a)
		bs, others := existing(b)
		for n, i := range as {
			set := own[n]
			var covers, within, meet []int
			var ticks []api.Span
			for m, j := range bs {
				if spans.Within(set, others[m]) {
					covers = append(covers, j)
				}
				if spans.Within(others[m], set) {
					within = append(within, j)
					ticks = spans.Union(ticks, others[m])
				}
				if spans.Meet(others[m], set) {
					meet = append(meet, j)
				}
			}
			if l, e := find.Over(b, set); e != api.OK || !slices.Equal(l, meet) {
				t.Fatal("over", b, set, l, e)
			}
			if l, e := combine.At(a, b, i); e != api.OK || !slices.Equal(l, ticks) {
				t.Fatal("combine", a, b, i, l, e)
			}
			if j, ok := conv.Cover(a, b, i); ok != (len(covers) > 0) || ok && j != covers[0] {
				t.Fatal("cover", a, b, i, j, ok)
			}
			if j, k, ok := conv.Within(a, b, i); ok != (len(within) > 0) || ok && (j != within[0] || k != within[len(within)-1]) {
				t.Fatal("within", a, b, i, j, k, ok)
			}
			if j, k, ok := conv.Meets(a, b, i); ok != (len(meet) > 0) || ok && (j != meet[0] || k != meet[len(meet)-1]) {
				t.Fatal("meets", a, b, i, j, k, ok)
			}
			if j, ok := conv.Next(a, i); ok != (n+1 < len(as)) || ok && j != as[n+1] {
				t.Fatal("next", a, i, j, ok)
			}
			if j, ok := conv.Prev(a, i); ok != (n > 0) || ok && j != as[n-1] {
				t.Fatal("prev", a, i, j, ok)
			}
		}
	}
}
