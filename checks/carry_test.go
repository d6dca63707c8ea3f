package checks

import (
	"math/rand"
	"testing"

	"epact/api"
	"epact/carry"
)

// P25.1 to P25.4
func TestCarry(t *testing.T) {
	t.Parallel()
	rng := rand.New(rand.NewSource(25))
	for range 400 {
		f := anyForm(rng)
		type hull struct{ i, first, last int }
		var l []hull
		for i := -2 * reach; i <= 2*reach; i++ {
			if s := ticks(f, i); len(s) > 0 {
				l = append(l, hull{i, s[0].From, s[len(s)-1].To})
			}
		}
		last := api.Bound{Inf: -1}
		for m := -12; m <= 12; m++ {
			low, high := api.MaxTick, -api.MaxTick
			lows, highs := false, false
			for _, x := range l {
				for _, y := range l {
					if y.i-x.i >= m && y.i-x.i < reach {
						low, lows = min(low, y.first-x.last), true
					}
					if y.i-x.i <= m && y.i-x.i > -reach {
						high, highs = max(high, y.last-x.first), true
					}
				}
			}
			got := carry.Low(f, int64(m))
			if got != (api.Bound{N: low}) {
				t.Fatal("low", f, m, got, low, lows)
			}
			if b := carry.High(f, int64(m)); b != (api.Bound{N: high}) {
				t.Fatal("high", f, m, b, high, highs)
			}
			if last.Inf == 0 && got.N < last.N {
				t.Fatal("a greater one has a lesser end", f, m)
			}
			last = got
		}
		for range 20 {
			if len(l) == 0 {
				break
			}
			x, y := l[rng.Intn(len(l))], l[rng.Intn(len(l))]
			a, b := x.first, y.last
			if rng.Intn(2) == 0 {
				a, b = x.last, y.first
			}
			k := int64(y.i - x.i)
			low, high := carry.Ticks(f, api.Range{Low: k - int64(rng.Intn(3)), High: k + int64(rng.Intn(3)), HasLow: true, HasHigh: true})
			if low.Inf == 0 && b-a < low.N || high.Inf == 0 && b-a > high.N {
				t.Fatal(f, a, b, low, high)
			}
			r, ok, e := carry.Range(f, api.Bound{N: b - a - rng.Intn(4)}, api.Bound{N: b - a + rng.Intn(4)})
			if e != api.OK || !ok || k < r.Low || k > r.High {
				t.Fatal(f, a, b, k, r)
			}
		}
	}
}
