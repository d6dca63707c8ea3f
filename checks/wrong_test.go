package checks

import (
	"math"
	"math/rand"
	"testing"

	"epact/alter"
	"epact/anchor"
	"epact/api"
	"epact/build"
	"epact/canon"
	"epact/carry"
	"epact/choose"
	"epact/combine"
	"epact/conv"
	"epact/find"
	"epact/gran"
	"epact/groups"
	"epact/prop"
	"epact/rel"
	"epact/sets"
	"epact/size"
	"epact/solve"
	"epact/tag"
)

// wild makes up a number: near 0, or near some limit.
func wild(rng *rand.Rand) int {
	near := []int{0, 0, 0, 0, 7, api.MaxTick, -api.MaxTick, api.MaxCount, 1 << 20, math.MaxInt - 2, math.MinInt + 2}
	return near[rng.Intn(len(near))] + rng.Intn(5) - 2
}

// wildSet makes up a list of spans, mostly no right set.
func wildSet(rng *rand.Rand) []api.Span {
	var l []api.Span
	for range rng.Intn(4) {
		l = append(l, api.Span{From: wild(rng), To: wild(rng)})
	}
	return l
}

// wildForm makes up a form that is mostly none: a right one with something wrong in it, or anything.
func wildForm(rng *rand.Rand) api.Form {
	f := gran.Copy(anyForm(rng))
	for range 1 + rng.Intn(3) {
		switch rng.Intn(8) {
		case 0:
			f.Period = wild(rng)
		case 1:
			f.Count = wild(rng)
		case 2:
			f.Core = append(f.Core, wildSet(rng))
		case 3:
			f.Odd = append(f.Odd, api.Granule{Index: wild(rng), Ticks: wildSet(rng)})
		case 4:
			if len(f.Core) > 0 {
				f.Core[rng.Intn(len(f.Core))] = wildSet(rng)
			}
		case 5:
			if len(f.Odd) > 0 {
				f.Odd[rng.Intn(len(f.Odd))].Ticks = wildSet(rng)
			}
		case 6:
			if len(f.Odd) > 0 {
				f.Odd[rng.Intn(len(f.Odd))].Index = wild(rng)
			}
		default:
			f.Core = append(f.Core, wildSet(rng))
			f.Count = len(f.Core)
		}
	}
	return f
}

// R1: whatever forms are, each call returns.
func TestWildForms(t *testing.T) {
	t.Parallel()
	rng := rand.New(rand.NewSource(1))
	for range 1500 {
		f, g := wildForm(rng), wildForm(rng)
		if rng.Intn(3) == 0 {
			g = anyForm(rng)
		}
		if rng.Intn(2) == 0 {
			f, g = g, f
		}
		i, j, k := wild(rng), wild(rng), wild(rng)
		gran.Right(f)
		gran.Get(f, i)
		gran.Size(f)
		gran.Before(f, i)
		gran.Behind(f, i)
		gran.Copy(f)
		canon.Form(f)
		canon.Is(f)
		canon.Same(f, g)
		find.At(f, i)
		find.From(f, i)
		find.Till(f, i)
		find.Over(f, wildSet(rng))
		find.Over(f, []api.Span{{From: -api.MaxTick, To: api.MaxTick}})
		groups.Done(f)
		groups.Raw(f, i)
		groups.Group(f, i)
		groups.Group(f, 3)
		groups.Shift(f, i)
		groups.Subset(f, min(i, j), max(i, j))
		alter.Parts(f, g)
		alter.Form(f, g, i, 0, 3)
		combine.Rounds(f, g)
		combine.Touched(f, g)
		combine.At(f, g, i)
		combine.Form(f, g)
		anchor.Rounds(f, g)
		anchor.Part(f, g)
		anchor.Form(f, g)
		anchor.At(f, g, i)
		choose.Down(f, g, 1, 2)
		choose.Up(f, g)
		choose.Meet(f, g, -1, 1)
		sets.Alike(f, g)
		sets.Union(f, g)
		sets.Cut(f, g)
		sets.Less(f, g)
		for _, do := range []func(a, b api.Form) (bool, api.Errno){rel.Finer, rel.Into, rel.Parts, rel.Sub, rel.Turns} {
			do(f, g)
		}
		rel.Shift(f, g)
		conv.Cover(f, g, i)
		conv.Within(f, g, i)
		conv.Meets(f, g, i)
		conv.Extent(f, i)
		conv.Next(f, i)
		conv.Prev(f, i)
		size.Least(f, i)
		size.Most(f, i)
		size.Down(f, i)
		size.Up(f, i)
		carry.Low(f, int64(i))
		carry.High(f, int64(i))
		carry.Ticks(f, api.Range{Low: int64(i), High: int64(j), HasLow: true, HasHigh: k > 0})
		carry.Range(f, api.Bound{N: i}, api.Bound{N: j})
		n := api.Net{Vars: rng.Intn(4), Forms: []api.Form{f, g}, Cons: []api.Con{{X: 0, Y: 1, Range: someRange(rng)}, {X: i, Y: j, Form: k}}}
		tag.Right(n)
		tag.Distance(f, i, j)
		tag.Meets(n, n.Cons[rng.Intn(2)], []int{i, j})
		tag.Fails(n, []int{i, j})
		tag.Holds(n, []int{0, 1})
		prop.Round(n)
		prop.Run(n, 5)
		solve.Find(n, i, j, k)
		build.Form(api.Expr{Op: api.OpUnion, Args: []api.Expr{{Name: "f"}, {Name: "g"}}}, []api.Binding{{Name: "f", Form: f}, {Name: "g", Form: g}})
	}
}
