package checks

import (
	"math/rand"
	"slices"
	"testing"

	"epact/api"
	"epact/find"
	"epact/gran"
)

// stretched makes each tick of a form many ticks, so that not many of them are in range.
func stretched(f api.Form, by int) api.Form {
	f = gran.Copy(f)
	f.Period *= by
	longer := func(l []api.Span) {
		for i := range l {
			l[i].From *= by
			l[i].To = l[i].To*by + by - 1
		}
	}
	for _, l := range f.Core {
		longer(l)
	}
	for _, o := range f.Odd {
		longer(o.Ticks)
	}
	return f
}

// existing is the indices of all existing granules near 0, and their ticks.
func existing(f api.Form) ([]int, [][]api.Span) {
	var indices []int
	var sets [][]api.Span
	for i := -10 * reach; i <= 10*reach; i++ {
		l, e := gran.Get(f, i)
		if e == api.OK && len(l) > 0 {
			indices = append(indices, i)
			sets = append(sets, l)
		}
	}
	return indices, sets
}

// P7.1, P7.2, P7.4
func TestFind(t *testing.T) {
	t.Parallel()
	rng := rand.New(rand.NewSource(7))
	for range 2500 {
		f, by := anyForm(rng), 1
		if rng.Intn(2) == 0 {
			by = api.MaxTick / (20 + rng.Intn(40))
			if f = stretched(f, by); gran.Right(f) != api.OK {
				continue
			}
		}
		indices, sets := existing(f)
		for range 12 {
			at := (rng.Intn(81)-40)*by + rng.Intn(3) - 1
			if by > 1 && rng.Intn(9) == 0 {
				at = rng.Intn(5) - 2 + api.MaxTick
			}
			in, from, till := -1, -1, -1
			for n, l := range sets {
				if l[len(l)-1].To >= at && from < 0 {
					from = n
				}
				if l[0].From <= at {
					till = n
				}
				if slices.ContainsFunc(l, func(s api.Span) bool { return s.From <= at && at <= s.To }) {
					in = n
				}
			}
			for what, x := range map[string]struct {
				do   func(api.Form, int) (int, bool)
				want int
			}{"at": {find.At, in}, "from": {find.From, from}, "till": {find.Till, till}} {
				i, ok := x.do(f, at)
				if ok != (x.want >= 0) || ok && i != indices[x.want] || !ok && i != 0 {
					t.Fatal(what, f, at, i, ok)
				}
			}
		}
	}
}

// P7.3
func TestFindOver(t *testing.T) {
	t.Parallel()
	rng := rand.New(rand.NewSource(8))
	for range 2000 {
		f := anyForm(rng)
		indices, sets := existing(f)
		l := pick(rng, []api.Span{{From: rng.Intn(20) - 20, To: rng.Intn(20)}, {From: 30, To: 30 + rng.Intn(20)}})
		var want []int
		for n, s := range sets {
			for _, x := range list(s) {
				if slices.Contains(list(l), x) {
					want = append(want, indices[n])
					break
				}
			}
		}
		if got, e := find.Over(f, l); e != api.OK || !slices.Equal(got, want) {
			t.Fatal(f, l, got, want, e)
		}
	}
}
