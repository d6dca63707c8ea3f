package checks

import (
	"maps"
	"math/rand"
	"slices"
	"testing"

	"epact/anchor"
	"epact/api"
	"epact/canon"
	"epact/choose"
)

// positions tells which of n positions are selected from the k-th on, l of them.
func positions(k, l, n int) []int {
	from := k
	if k < 0 {
		from = n + k + 1
	}
	var at []int
	for p := from; p < from+l; p++ {
		if p >= 1 && p <= n {
			at = append(at, p-1)
		}
	}
	return at
}

// chosen is what is selected of some granules by others, straight from the words.
func chosen(a, b map[int][]int, k, l int, belongs func(own, other []int) bool) map[int]bool {
	got := map[int]bool{}
	indices := slices.Sorted(maps.Keys(a))
	for _, other := range b {
		var members []int
		for _, i := range indices {
			if belongs(a[i], other) {
				members = append(members, i)
			}
		}
		for _, p := range positions(k, l, len(members)) {
			got[members[p]] = true
		}
	}
	return got
}

// P17.1, P17.2
func TestChoose(t *testing.T) {
	t.Parallel()
	rng := rand.New(rand.NewSource(18))
	for range 300 {
		a, b := couple(rng)
		k, l := rng.Intn(4)+1, rng.Intn(3)+1
		if rng.Intn(2) == 0 {
			k = -k
		}
		as, bs := all(a), all(b)
		up := map[int]bool{}
		for i, own := range as {
			for _, other := range bs {
				if inside(other, own) {
					up[i] = true
				}
			}
		}
		for what, x := range map[string]struct {
			do   func() (api.Form, api.Errno)
			want map[int]bool
		}{
			"down": {func() (api.Form, api.Errno) { return choose.Down(a, b, k, l) }, chosen(as, bs, k, l, inside)},
			"meet": {func() (api.Form, api.Errno) { return choose.Meet(a, b, k, l) }, chosen(as, bs, k, l, meets)},
			"up":   {func() (api.Form, api.Errno) { return choose.Up(a, b) }, up},
		} {
			f, e := x.do()
			if e != api.OK || !canon.Is(f) {
				t.Fatal(what, a, b, k, l, e)
			}
			for i := -reach; i <= reach; i++ {
				want := as[i]
				if !near(want) {
					continue
				}
				if !x.want[i] {
					want = nil
				}
				if !slices.Equal(ticks(f, i), packed(want)) {
					t.Fatal(what, a, b, k, l, f, i, want)
				}
			}
			if part, e := anchor.Part(f, a); e != api.OK || !part {
				t.Fatal(what, a, b, e)
			}
		}
	}
}
