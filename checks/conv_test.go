package checks

import (
	"maps"
	"math/rand"
	"slices"
	"testing"

	"epact/api"
	"epact/conv"
)

// P21.1 to P21.4
func TestConv(t *testing.T) {
	t.Parallel()
	rng := rand.New(rand.NewSource(21))
	for range 1500 {
		a, b := couple(rng)
		as, bs := all(a), all(b)
		indices := slices.Sorted(maps.Keys(bs))
		for i := -reach; i <= reach; i++ {
			own := as[i]
			if !near(own) {
				continue
			}
			var covers, within, meet []int
			for _, j := range indices {
				if len(own) > 0 && inside(own, bs[j]) {
					covers = append(covers, j)
				}
				if len(own) > 0 && inside(bs[j], own) {
					within = append(within, j)
				}
				if meets(bs[j], own) {
					meet = append(meet, j)
				}
			}
			j, ok := conv.Cover(a, b, i)
			if ok != (len(covers) > 0) || ok && j != covers[0] || !ok && j != 0 {
				t.Fatal("cover", a, b, i, j, ok)
			}
			for what, x := range map[string]struct {
				do   func(a, b api.Form, i int) (int, int, bool)
				want []int
			}{"within": {conv.Within, within}, "meets": {conv.Meets, meet}} {
				first, last, ok := x.do(a, b, i)
				if ok != (len(x.want) > 0) || ok && (first != x.want[0] || last != x.want[len(x.want)-1]) {
					t.Fatal(what, a, b, i, first, last, ok)
				}
			}
			if ok {
				if first, last, ok := conv.Within(b, a, j); !ok || i < first || i > last {
					t.Fatal(a, b, i, j)
				}
			}
			if s, ok := conv.Extent(a, i); ok != (len(own) > 0) || ok && (s.From != own[0] || s.To != own[len(own)-1]) {
				t.Fatal("extent", a, i)
			}
		}
		keys := slices.Sorted(maps.Keys(as))
		for i := -12; i <= 12; i++ {
			n, found := slices.BinarySearch(keys, i)
			j, ok := conv.Prev(a, i)
			if ok != (n > 0) || ok && j != keys[n-1] {
				t.Fatal("prev", a, i, j, ok)
			}
			if found {
				n++
			}
			j, ok = conv.Next(a, i)
			if ok != (n < len(keys)) || ok && j != keys[n] {
				t.Fatal("next", a, i, j, ok)
			}
		}
	}
}
