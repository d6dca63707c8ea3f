package checks

import (
	"math/rand"
	"slices"
	"testing"

	"epact/api"
	"epact/solve"
	"epact/tag"
)

// searched is the search, straight from the words.
func searched(n api.Net, from, to, steps int) api.Verdict {
	ticks := make([]int, n.Vars)
	made := 0
	var try func(v int) uint8
	try = func(v int) uint8 {
		if v == n.Vars {
			return api.FoundSome
		}
		for t := from; t <= to; t++ {
			if made == steps {
				return api.FoundSpent
			}
			made++
			ticks[v] = t
			possible := true
			for _, c := range n.Cons {
				if max(c.X, c.Y) == v && !tag.Meets(n, c, ticks) {
					possible = false
				}
			}
			if possible {
				if kind := try(v + 1); kind != api.FoundNone {
					return kind
				}
			}
		}
		return api.FoundNone
	}
	kind := try(0)
	if kind != api.FoundSome {
		ticks = nil
	}
	return api.Verdict{Kind: kind, Ticks: ticks, Steps: made}
}

func sameVerdict(a, b api.Verdict) bool {
	return a.Kind == b.Kind && a.Steps == b.Steps && slices.Equal(a.Ticks, b.Ticks)
}

// P27.2, P27.3
func TestSolve(t *testing.T) {
	t.Parallel()
	rng := rand.New(rand.NewSource(27))
	kinds := map[uint8]int{}
	for range 1500 {
		n := someNet(rng)
		from := rng.Intn(20) - 10
		to := from + rng.Intn(9)
		v, e := solve.Find(n, from, to, api.MaxSteps)
		if e != api.OK || !sameVerdict(v, searched(n, from, to, api.MaxSteps)) {
			t.Fatal(n, from, to, v, e)
		}
		kinds[v.Kind]++
		if v.Kind == api.FoundSome && !tag.Holds(n, v.Ticks) || v.Kind == api.FoundSpent || v.Steps > solve.Enough(n.Vars, to-from+1) {
			t.Fatal(n, v)
		}
		steps := rng.Intn(v.Steps + 2)
		w, _ := solve.Find(n, from, to, steps)
		if steps >= v.Steps && !sameVerdict(v, w) || steps < v.Steps && (w.Kind != api.FoundSpent || w.Steps != steps || w.Ticks != nil) {
			t.Fatal(n, from, to, steps, w)
		}
		if in, e := solve.Find(n, from, to-rng.Intn(to-from+1), api.MaxSteps); e != api.OK || v.Kind == api.FoundNone && in.Kind != api.FoundNone || in.Kind == api.FoundSome && slices.Compare(in.Ticks, v.Ticks) < 0 {
			t.Fatal(n, from, to, in, v)
		}
	}
	if kinds[api.FoundSome] < 200 || kinds[api.FoundNone] < 200 {
		t.Error(kinds)
	}
}
