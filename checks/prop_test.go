package checks

import (
	"math/rand"
	"slices"
	"testing"

	"epact/api"
	"epact/prop"
	"epact/stp"
	"epact/tag"
)

// someRange makes up a range near 0.
func someRange(rng *rand.Rand) api.Range {
	var r api.Range
	if r.HasLow = rng.Intn(4) > 0; r.HasLow {
		r.Low = int64(rng.Intn(7) - 3)
	}
	if r.HasHigh = rng.Intn(4) > 0; r.HasHigh {
		r.High = r.Low + int64(rng.Intn(5))
	}
	return r
}

// someNet makes up a network.
func someNet(rng *rand.Rand) api.Net {
	n := api.Net{Vars: 1 + rng.Intn(4)}
	for range 1 + rng.Intn(3) {
		n.Forms = append(n.Forms, anyForm(rng))
	}
	for range rng.Intn(6) {
		n.Cons = append(n.Cons, api.Con{X: rng.Intn(n.Vars), Y: rng.Intn(n.Vars), Form: rng.Intn(len(n.Forms)), Range: someRange(rng)})
	}
	return n
}

// P26.2 to P26.4
func TestProp(t *testing.T) {
	t.Parallel()
	rng := rand.New(rand.NewSource(26))
	held, odd := 0, 0
	for range 1500 {
		n := someNet(rng)
		one, d, ok, e := prop.Round(n)
		if e != api.OK || ok && tag.Right(one) != api.OK {
			t.Fatal(n, e)
		}
		s, e := prop.Run(n, 1+rng.Intn(20))
		if e != api.OK || s.Kind != api.SpreadOdd && tag.Right(s.Net) != api.OK || !ok && s.Kind != api.SpreadOdd {
			t.Fatal(n, s.Kind, e)
		}
		if s.Kind == api.SpreadOdd {
			odd++
		}
		if s.Kind == api.SpreadDone {
			if again, _, ok, _ := prop.Round(s.Net); !ok || !slices.Equal(again.Cons, s.Net.Cons) {
				t.Fatal(n, s.Net.Cons, again.Cons)
			}
		}
		for i, c := range n.Cons {
			if ok && !within(one.Cons[i].Range, c.Range) || s.Kind != api.SpreadOdd && !within(s.Net.Cons[i].Range, c.Range) {
				t.Fatal(n)
			}
		}
		for range 200 {
			ticks := make([]int, n.Vars)
			for i := range ticks {
				ticks[i] = rng.Intn(24) - 8
			}
			holds := tag.Holds(n, ticks)
			if holds {
				held++
			}
			if holds && (!ok || s.Kind == api.SpreadOdd) {
				t.Fatal("ticks hold", n, ticks)
			}
			if ok && (tag.Holds(one, ticks) != holds || holds && !stp.Holds(d, ticks)) {
				t.Fatal("a round", n, ticks)
			}
			if s.Kind != api.SpreadOdd && (tag.Holds(s.Net, ticks) != holds || holds && !stp.Holds(s.Ticks, ticks)) {
				t.Fatal("a run", n, ticks)
			}
		}
	}
	if held < 1000 || odd < 100 {
		t.Error(held, odd)
	}
}

// within reports whether a range is not wider than another one.
func within(a, b api.Range) bool {
	return (!b.HasLow || a.HasLow && a.Low >= b.Low) && (!b.HasHigh || a.HasHigh && a.High <= b.High)
}
