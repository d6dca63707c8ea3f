// Package sample writes forms in short, for the tests.
package sample

import (
	"slices"

	"epact/api"
)

// Set returns spans from pairs of ticks.
func Set(ticks ...int) []api.Span {
	var l []api.Span
	for i := 0; i+1 < len(ticks); i += 2 {
		l = append(l, api.Span{From: ticks[i], To: ticks[i+1]})
	}
	return l
}

// Form returns a form with a core.
func Form(period int, core ...[]api.Span) api.Form {
	return api.Form{Period: period, Count: len(core), Core: core}
}

// Odd returns a granule from pairs of ticks.
func Odd(index int, ticks ...int) api.Granule {
	return api.Granule{Index: index, Ticks: Set(ticks...)}
}

// With returns a form with other exceptions.
func With(f api.Form, odd ...api.Granule) api.Form {
	f.Odd = odd
	return f
}

// Some returns a form with some granules of one tick each, whose indices are these ticks.
func Some(period int, indices ...int) api.Form {
	f := Form(period, make([][]api.Span, period)...)
	for _, i := range indices {
		f.Core[i] = Set(i, i)
	}
	return f
}

// Range returns the range from one number to another one.
func Range(low, high int64) api.Range {
	return api.Range{Low: low, High: high, HasLow: true, HasHigh: true}
}

// Equal reports whether two forms are represented in the same way.
func Equal(f, g api.Form) bool {
	return f.Period == g.Period && f.Count == g.Count && slices.EqualFunc(f.Core, g.Core, slices.Equal) &&
		slices.EqualFunc(f.Odd, g.Odd, func(a, b api.Granule) bool { return a.Index == b.Index && slices.Equal(a.Ticks, b.Ticks) })
}
