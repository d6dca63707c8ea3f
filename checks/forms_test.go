// Package checks holds the layers against what the document says in words, computed as slowly and as plainly as can be, on forms that are made up.
package checks

import (
	"math/rand"
	"slices"
	"testing"

	"epact/api"
	"epact/gran"
)

// ticks is the set of an index, straight from the definition.
func ticks(f api.Form, i int) []api.Span {
	for _, o := range f.Odd {
		if o.Index == i {
			return o.Ticks
		}
	}
	return bare(f, i)
}

// bare is the set of an index as it would be without exceptions.
func bare(f api.Form, i int) []api.Span {
	if f.Count == 0 {
		return nil
	}
	turn := i / f.Count
	if i%f.Count < 0 {
		turn--
	}
	var l []api.Span
	for _, s := range f.Core[i-turn*f.Count] {
		l = append(l, api.Span{From: s.From + turn*f.Period, To: s.To + turn*f.Period})
	}
	return l
}

// list is all ticks of a set.
func list(l []api.Span) []int {
	var all []int
	for _, s := range l {
		for t := s.From; t <= s.To; t++ {
			all = append(all, t)
		}
	}
	return all
}

// packed is the right set of some ticks.
func packed(all []int) []api.Span {
	all = slices.Clone(all)
	slices.Sort(all)
	var l []api.Span
	for _, t := range all {
		if n := len(l); n > 0 && t <= l[n-1].To+1 {
			l[n-1].To = t
		} else {
			l = append(l, api.Span{From: t, To: t})
		}
	}
	return l
}

// pick leaves some ticks of a set out.
func pick(rng *rand.Rand, l []api.Span) []api.Span {
	var some []int
	for _, t := range list(l) {
		if rng.Intn(4) > 0 {
			some = append(some, t)
		}
	}
	return packed(some)
}

// core makes a core that repeats: a walk through one period.
func core(rng *rand.Rand, period, count int) api.Form {
	f := api.Form{Period: period, Count: count, Core: make([][]api.Span, count)}
	at, holes, skips := 0, rng.Intn(4), rng.Intn(3)
	from := rng.Intn(2*period+1) - period
	sets := make([][]int, count)
	for t := range period {
		for at < count-1 && rng.Intn(period) < count+skips {
			at++
		}
		if rng.Intn(6) >= holes {
			sets[at] = append(sets[at], from+t)
		}
	}
	for i, s := range sets {
		f.Core[i] = packed(s)
	}
	return f
}

// odd adds exceptions near the index 0.
func odd(rng *rand.Rand, f api.Form) api.Form {
	for i := -6; i <= 6; i++ {
		if rng.Intn(4) > 0 {
			continue
		}
		var l []api.Span
		switch rng.Intn(4) {
		case 0:
		case 1:
			l = slices.Clone(ticks(f, i))
		case 2:
			l = pick(rng, ticks(f, i))
		default:
			from, to := around(f, i)
			l = pick(rng, []api.Span{{From: from, To: from + rng.Intn(to-from+1)}})
		}
		f.Odd = append(f.Odd, api.Granule{Index: i, Ticks: l})
	}
	return f
}

// around is the ticks between the granules on both sides of an index.
func around(f api.Form, i int) (int, int) {
	from, to := -60, 60
	if j, ok := gran.Before(f, i); ok {
		l := ticks(f, j)
		from = l[len(l)-1].To + 1
		to = from + 20
	}
	if j, ok := gran.Behind(f, i); ok {
		to = ticks(f, j)[0].From - 1
		from = max(from, to-20)
	}
	from, to = max(from, -70), min(to, 70)
	if to < from {
		return from, from
	}
	return from, to
}

// anyForm makes up a right form.
func anyForm(rng *rand.Rand) api.Form {
	for {
		var f api.Form
		if rng.Intn(5) > 0 {
			f = core(rng, 1+rng.Intn(14), 1+rng.Intn(5))
		}
		if rng.Intn(2) == 0 || f.Count == 0 {
			f = odd(rng, f)
		}
		if rng.Intn(4) == 0 {
			f = twice(rng, f)
		}
		if gran.Right(f) == api.OK {
			return f
		}
	}
}

// twice writes a core several times.
func twice(rng *rand.Rand, f api.Form) api.Form {
	if f.Count == 0 {
		return f
	}
	n := 2 + rng.Intn(2)
	var sets [][]api.Span
	for i := range n * f.Count {
		sets = append(sets, bare(f, i))
	}
	f.Core, f.Period, f.Count = sets, f.Period*n, f.Count*n
	return f
}

// related makes up a form that has much to do with another one.
func related(rng *rand.Rand, f api.Form) api.Form {
	for {
		g := gran.Copy(f)
		switch rng.Intn(5) {
		case 0:
			for i, l := range g.Core {
				if rng.Intn(2) == 0 {
					g.Core[i] = pick(rng, l)
				}
			}
		case 1:
			for i := range g.Core {
				if rng.Intn(2) == 0 {
					g.Core[i] = nil
				}
			}
		case 2:
			g.Odd = nil
			g = odd(rng, g)
		case 3:
			g = twice(rng, g)
		default:
			for i := range g.Odd {
				if rng.Intn(2) == 0 {
					g.Odd[i].Ticks = nil
				}
			}
		}
		if gran.Right(g) == api.OK {
			return g
		}
		if rng.Intn(9) == 0 {
			return f
		}
	}
}

// reach is how far from 0 indices of made-up forms are asked for: well behind all exceptions.
const reach = 40

// orderly reports whether granules near 0 are in order.
func orderly(f api.Form) bool {
	last := -1 << 50
	for i := -reach; i <= reach; i++ {
		for _, s := range ticks(f, i) {
			if s.From <= last {
				return false
			}
			last = s.To
		}
	}
	return true
}

// P5.1, P5.3, P5.4
func TestGran(t *testing.T) {
	t.Parallel()
	rng := rand.New(rand.NewSource(5))
	wrong, fine := 0, 0
	for range 20000 {
		var f api.Form
		if rng.Intn(5) > 0 {
			f = core(rng, 1+rng.Intn(14), 1+rng.Intn(5))
			if rng.Intn(3) == 0 {
				f.Period = max(1, f.Period-rng.Intn(4))
			}
		}
		if rng.Intn(3) > 0 {
			f = odd(rng, f)
		}
		if len(f.Odd) > 0 && rng.Intn(3) == 0 {
			o := &f.Odd[rng.Intn(len(f.Odd))]
			o.Ticks = packed([]int{rng.Intn(20) - 10, rng.Intn(20) - 10})
		}
		e := gran.Right(f)
		if (e == api.OK) != orderly(f) {
			t.Fatal(f, e)
		}
		if e != api.OK {
			wrong++
			continue
		}
		fine++
		checkGran(t, f)
	}
	if wrong < 500 || fine < 5000 {
		t.Error(wrong, fine)
	}
}

func checkGran(t *testing.T, f api.Form) {
	t.Helper()
	for i := -12; i <= 12; i++ {
		if l, e := gran.Get(f, i); e != api.OK || !slices.Equal(l, ticks(f, i)) {
			t.Fatal("get", f, i, l, e)
		}
		j := i - 1
		for j >= i-reach && len(ticks(f, j)) == 0 {
			j--
		}
		if k, ok := gran.Before(f, i); ok != (j >= i-reach) || ok && k != j {
			t.Fatal("before", f, i, k, ok)
		}
		for j = i + 1; j <= i+reach && len(ticks(f, j)) == 0; {
			j++
		}
		if k, ok := gran.Behind(f, i); ok != (j <= i+reach) || ok && k != j {
			t.Fatal("behind", f, i, k, ok)
		}
	}
}
