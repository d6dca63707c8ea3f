package checks

import (
	"math/rand"
	"testing"

	"epact/api"
	"epact/size"
)

// P22.1 to P22.4
func TestSize(t *testing.T) {
	t.Parallel()
	rng := rand.New(rand.NewSource(22))
	for range 1500 {
		f := anyForm(rng)
		type hull struct{ i, first, last int }
		var l []hull
		for i := -2 * reach; i <= 2*reach; i++ {
			if s := ticks(f, i); len(s) > 0 {
				l = append(l, hull{i, s[0].From, s[len(s)-1].To})
			}
		}
		least, most := map[int]int{}, map[int]int{}
		for _, x := range l {
			for _, y := range l {
				k := y.i - x.i
				if n, ok := least[k]; !ok || y.first-x.last < n {
					least[k] = y.first - x.last
				}
				if n, ok := most[k]; !ok || y.last-x.first > n {
					most[k] = y.last - x.first
				}
			}
		}
		for k := -15; k <= 15; k++ {
			n, ok, e := size.Least(f, k)
			if want, some := least[k]; e != api.OK || ok != some || n != want {
				t.Fatal("least", f, k, n, ok, e, want)
			}
			m, ok, e := size.Most(f, k)
			if want, some := most[k]; e != api.OK || ok != some || m != want {
				t.Fatal("most", f, k, m, ok, e, want)
			}
			if n, _, _ = size.Least(f, -k); n != -m {
				t.Fatal(f, k, n, m)
			}
		}
		for d := -12; d <= 12; d++ {
			down, up, some, any := 0, 0, false, false
			for k, n := range least {
				if n <= d && (!some || k > down) {
					down, some = k, true
				}
			}
			for k, n := range most {
				if n >= d && (!any || k < up) {
					up, any = k, true
				}
			}
			if k, ok, e := size.Down(f, d); e != api.OK || ok != some || k != down {
				t.Fatal("down", f, d, k, ok, down)
			}
			if k, ok, e := size.Up(f, d); e != api.OK || ok != any || k != up {
				t.Fatal("up", f, d, k, ok, up)
			}
		}
	}
}
