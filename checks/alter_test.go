package checks

import (
	"math/rand"
	"slices"
	"testing"

	"epact/alter"
	"epact/api"
	"epact/canon"
	"epact/groups"
)

// P14.1 to P14.3
func TestAlter(t *testing.T) {
	t.Parallel()
	rng := rand.New(rand.NewSource(14))
	done, shapeless := 0, 0
	for done < 1500 {
		fine := core(rng, 1+rng.Intn(9), 1+rng.Intn(3))
		if _, _, e := alter.Parts(fine, fine); e != api.OK {
			continue
		}
		done++
		// b is a pattern of sizes, so long that the fine ones repeat with it.
		sizes, from := make([]int, 1+rng.Intn(3)), rng.Intn(9)-4
		for n := range sizes {
			sizes[n] = 1 + rng.Intn(3)
		}
		total := 0
		for n := range sizes {
			total += sizes[n]
		}
		sizes = slices.Repeat(sizes, fine.Count)
		total *= fine.Count
		b := func(i int) int {
			at := from
			for ; i >= len(sizes); i -= len(sizes) {
				at += total
			}
			for ; i < 0; i += len(sizes) {
				at -= total
			}
			for _, n := range sizes[:i] {
				at += n
			}
			return at
		}
		row := func(f api.Form, from, to int) []api.Span {
			var all []int
			for j := from; j < to; j++ {
				all = append(all, list(ticks(f, j))...)
			}
			return packed(all)
		}
		coarse := api.Form{Period: total / fine.Count * fine.Period, Count: len(sizes)}
		for i := range sizes {
			coarse.Core = append(coarse.Core, row(fine, b(i), b(i+1)))
		}
		if rng.Intn(2) == 0 {
			coarse = canon.Form(coarse)
		}
		starts, parts, e := alter.Parts(fine, coarse)
		if e != api.OK || b(len(starts)) != b(0)+parts {
			t.Fatal(fine, coarse, starts, parts, e)
		}
		for i, s := range starts {
			if s != b(i) {
				t.Fatal(fine, coarse, starts)
			}
		}
		k, m := rng.Intn(5)-2, 1+rng.Intn(4)
		l := rng.Intn(m)
		c := func(i int) int {
			at := b(i)
			for j := 0; j < i; j++ {
				if j%m == l {
					at += k
				}
			}
			for j := i; j < 0; j++ {
				if (j%m+m)%m == l {
					at -= k
				}
			}
			return at
		}
		g, e := alter.Form(fine, coarse, k, l, m)
		lost := false
		for i := range 12 * len(sizes) {
			lost = lost || c(i+1) <= c(i)
		}
		if lost != (e == api.ErrShape) || !lost && e != api.OK {
			t.Fatal(fine, coarse, k, l, m, e)
		}
		if lost {
			shapeless++
			continue
		}
		says(t, g, reach, func(i int) []api.Span { return row(fine, c(i), c(i+1)) })
		if k == 0 && !equal(g, canon.Form(coarse)) {
			t.Fatal(fine, coarse)
		}
		if back, e := alter.Form(fine, g, -k, l, m); e != api.OK || !equal(back, canon.Form(coarse)) {
			t.Fatal(fine, coarse, k, l, m, e)
		}
		// What is not composed of it any more.
		cut, _ := groups.Group(coarse, 1)
		cut.Core[0] = pick(rng, cut.Core[0])
		if len(cut.Core[0]) > 0 && !slices.Equal(cut.Core[0], coarse.Core[0]) {
			if _, _, e := alter.Parts(fine, cut); e != api.ErrShape && !composes(fine, cut) {
				t.Fatal(fine, cut, e)
			}
		}
	}
	if shapeless < 100 || shapeless > 1000 {
		t.Error(shapeless)
	}
}

// composes reports whether each coarse granule near 0 is made of fine ones that follow one another, and all of these are used.
func composes(fine, coarse api.Form) bool {
	next := 1 << 40
	for i := -10; i < 10; i++ {
		l := list(ticks(coarse, i))
		for j := -200; j < 200; j++ {
			own := list(ticks(fine, j))
			if len(own) == 0 || len(l) == 0 || own[0] < l[0] || own[0] > l[len(l)-1] {
				continue
			}
			if next != 1<<40 && j != next {
				return false
			}
			next = j + 1
			for _, tick := range own {
				if !slices.Contains(l, tick) {
					return false
				}
			}
			if len(own) > len(l) {
				return false
			}
		}
	}
	return true
}
