package stp

import (
	"math"
	"math/rand"
	"slices"
	"testing"

	"epact/api"
)

var inf = api.Bound{Inf: 1}

func num(n int) api.Bound { return api.Bound{N: n} }

func equal(a, b [][]api.Bound) bool { return slices.EqualFunc(a, b, slices.Equal) }

// net makes a network by setting bounds: from, to, at most.
func net(n int, bounds ...[3]int) [][]api.Bound {
	d, _ := New(n)
	for _, b := range bounds {
		d, _ = Set(d, b[0], b[1], num(b[2]))
	}
	return d
}

// P24.1
func TestNew(t *testing.T) {
	d, e := New(2)
	if e != api.OK || !equal(d, [][]api.Bound{{num(0), inf}, {inf, num(0)}}) {
		t.Error(d, e)
	}
	for _, n := range []int{0, 1, 24} {
		if d, e := New(n); e != api.OK || len(d) != n || !Right(d) {
			t.Error(n, e)
		}
	}
	for _, n := range []int{-1, 25, math.MinInt, math.MaxInt} {
		if d, e := New(n); e != api.ErrArg || d != nil {
			t.Error(n, d, e)
		}
	}
}

// P24.1
func TestRight(t *testing.T) {
	for _, d := range [][][]api.Bound{nil, {}, {{num(-5)}}, {{num(3), inf}, {num(api.MaxBound), num(-api.MaxBound)}}, {{inf}}} {
		if !Right(d) {
			t.Error(d)
		}
	}
	long := make([][]api.Bound, 25)
	for i := range long {
		long[i] = make([]api.Bound, 25)
	}
	for _, d := range [][][]api.Bound{long, {{}}, {nil}, {{num(0), num(0)}}, {{num(0), num(0)}, {num(0)}}, {{num(api.MaxBound + 1)}}, {{num(-api.MaxBound - 1)}}, {{{Inf: -1}}}, {{{Inf: 1, N: 1}}}, {{{Inf: 2}}}, {{num(math.MinInt)}}} {
		if Right(d) {
			t.Error(d)
		}
		if c, ok, e := Close(d); c != nil || ok || e != api.ErrArg {
			t.Error(d, c, ok, e)
		}
		if s, e := Set(d, 0, 0, num(0)); s != nil || e != api.ErrArg {
			t.Error(d, s, e)
		}
		if Holds(d, make([]int, len(d))) {
			t.Error(d)
		}
	}
}

// P24.2
func TestSet(t *testing.T) {
	d := net(2)
	s, e := Set(d, 0, 1, num(5))
	if e != api.OK || s[0][1] != num(5) || d[0][1] != inf || s[1][0] != inf {
		t.Error(d, s, e)
	}
	for _, x := range []struct{ most, want api.Bound }{{num(6), num(5)}, {inf, num(5)}, {num(4), num(4)}, {num(-api.MaxBound), num(-api.MaxBound)}, {num(5), num(5)}} {
		if r, e := Set(s, 0, 1, x.most); e != api.OK || r[0][1] != x.want || s[0][1] != num(5) {
			t.Error(x, r, e)
		}
	}
	if r, e := Set(s, 1, 1, num(-3)); e != api.OK || r[1][1] != num(-3) {
		t.Error(r, e)
	}
	for _, x := range []struct {
		i, j int
		most api.Bound
	}{{-1, 0, num(0)}, {0, 2, num(0)}, {2, 0, num(0)}, {0, -1, num(0)}, {0, 1, num(api.MaxBound + 1)}, {0, 1, num(-api.MaxBound - 1)}, {0, 1, api.Bound{Inf: -1}}, {0, 1, api.Bound{Inf: 1, N: 2}}, {math.MaxInt, math.MinInt, num(0)}} {
		if r, e := Set(s, x.i, x.j, x.most); r != nil || e != api.ErrArg {
			t.Error(x, r, e)
		}
	}
	if r, e := Set(nil, 0, 0, num(0)); r != nil || e != api.ErrArg {
		t.Error(r, e)
	}
}

// P24.3
func TestClose(t *testing.T) {
	pair := net(2, [3]int{0, 1, 5}, [3]int{1, 0, -2})
	three := net(3, [3]int{0, 1, 5}, [3]int{1, 0, -2}, [3]int{1, 2, 1})
	far := net(24)
	for i := range 23 {
		far, _ = Set(far, i, i+1, num(api.MaxBound))
	}
	for i, x := range []struct {
		d, c [][]api.Bound
	}{
		{pair, pair}, {net(0), net(0)}, {net(3), net(3)}, {[][]api.Bound{{num(7)}}, [][]api.Bound{{num(0)}}}, {[][]api.Bound{{inf}}, [][]api.Bound{{num(0)}}},
		{three, [][]api.Bound{{num(0), num(5), num(6)}, {num(-2), num(0), num(1)}, {inf, inf, num(0)}}},
		{net(2, [3]int{0, 1, 5}, [3]int{1, 0, -5}), net(2, [3]int{0, 1, 5}, [3]int{1, 0, -5})},
	} {
		before := copied(x.d)
		if c, ok, e := Close(x.d); !equal(c, x.c) || !ok || e != api.OK || !equal(before, x.d) {
			t.Error(i, c, ok, e)
		}
	}
	if c, ok, e := Close(far); !ok || e != api.OK || c[0][23] != num(23*api.MaxBound) || c[23][0] != inf {
		t.Error(ok, e)
	}
	low := net(24)
	for i := range 24 {
		for j := range 24 {
			low[i][j] = num(-api.MaxBound)
		}
	}
	for i, d := range [][][]api.Bound{low, net(2, [3]int{0, 1, 5}, [3]int{1, 0, -6}), {{num(-1)}}, net(3, [3]int{0, 1, 2}, [3]int{1, 2, 2}, [3]int{2, 0, -5}), net(3, [3]int{2, 2, -api.MaxBound})} {
		if c, ok, e := Close(d); c != nil || ok || e != api.OK {
			t.Error(i, c, ok, e)
		}
	}
}

// P24.1
func TestHolds(t *testing.T) {
	pair := net(2, [3]int{0, 1, 5}, [3]int{1, 0, -2})
	for _, x := range []struct {
		d     [][]api.Bound
		ticks []int
		want  bool
	}{
		{pair, []int{3, 7}, true}, {pair, []int{3, 9}, false}, {pair, []int{3, 8}, true}, {pair, []int{3, 5}, true}, {pair, []int{3, 4}, false}, {pair, []int{3}, false}, {pair, []int{3, 7, 7}, false}, {pair, nil, false}, {nil, nil, true}, {[][]api.Bound{{num(-1)}}, []int{5}, false},
		{pair, []int{math.MinInt, math.MaxInt}, false}, {pair, []int{math.MaxInt, math.MinInt}, false}, {net(2, [3]int{0, 1, -5}), []int{math.MaxInt, math.MinInt}, true}, {net(2, [3]int{0, 1, 5}), []int{math.MinInt, math.MaxInt}, false}, {net(2), []int{math.MinInt, math.MaxInt}, true}, {net(2, [3]int{0, 1, api.MaxBound}), []int{math.MinInt, math.MinInt + api.MaxBound}, true},
	} {
		if Holds(x.d, x.ticks) != x.want {
			t.Error(x)
		}
	}
}

// P24.3, P24.4: the closure is that of all paths, and holds for the same ticks.
func TestConsequences(t *testing.T) {
	rng := rand.New(rand.NewSource(24))
	odd := 0
	for range 3000 {
		n := rng.Intn(5)
		d := net(n)
		for range rng.Intn(9) {
			if n > 0 {
				d, _ = Set(d, rng.Intn(n), rng.Intn(n), num(rng.Intn(16)-5))
			}
		}
		least := paths(d)
		negative := false
		for i := range n {
			negative = negative || least[i][i].Inf == 0 && least[i][i].N < 0
			least[i][i] = num(0)
		}
		c, ok, e := Close(d)
		if e != api.OK || ok == negative || ok && !equal(c, least) || !ok && c != nil {
			t.Fatal(d, c, ok, least)
		}
		if !ok {
			odd++
		}
		some := false
		for range 300 {
			ticks := make([]int, n)
			for i := range ticks {
				ticks[i] = rng.Intn(20)
			}
			holds := Holds(d, ticks)
			some = some || holds
			if holds && !ok || ok && Holds(c, ticks) != holds {
				t.Fatal(d, c, ticks)
			}
		}
		if ok {
			if again, _, _ := Close(c); !equal(again, c) {
				t.Fatal(c, again)
			}
			if !Holds(d, solution(c)) {
				t.Fatal(d, c)
			}
			if n > 0 {
				i, j := rng.Intn(n), rng.Intn(n)
				lower, _ := Set(d, i, j, num(rng.Intn(9)-3))
				if l, ok, _ := Close(lower); ok {
					for i := range n {
						for j := range n {
							if c[i][j].Inf == 0 && (l[i][j].Inf != 0 || l[i][j].N > c[i][j].N) {
								t.Fatal(d, lower)
							}
						}
					}
				}
			}
		}
	}
	if odd < 300 || odd > 2700 {
		t.Error(odd)
	}
}

// solution is ticks that hold in a closure: each variable as great as those before allow.
func solution(c [][]api.Bound) []int {
	ticks := make([]int, len(c))
	for j := range c {
		ticks[j] = -1 << 30
		least, most := math.MinInt, math.MaxInt
		for i := range j {
			if c[i][j].Inf == 0 {
				most = min(most, ticks[i]+c[i][j].N)
			}
			if c[j][i].Inf == 0 {
				least = max(least, ticks[i]-c[j][i].N)
			}
		}
		switch {
		case most != math.MaxInt:
			ticks[j] = most
		case least != math.MinInt:
			ticks[j] = least
		}
	}
	return ticks
}

// paths is the least lengths of all paths, by going along each of them.
func paths(d [][]api.Bound) [][]api.Bound {
	least := make([][]api.Bound, len(d))
	for i := range d {
		least[i] = slices.Repeat([]api.Bound{inf}, len(d))
		seen := make([]bool, len(d))
		var walk func(at, far int)
		walk = func(at, far int) {
			for j := range d {
				if d[at][j].Inf != 0 || seen[j] && j != i {
					continue
				}
				if n := far + d[at][j].N; least[i][j].Inf != 0 || n < least[i][j].N {
					least[i][j] = num(n)
				}
				if j != i {
					seen[j] = true
					walk(j, far+d[at][j].N)
					seen[j] = false
				}
			}
		}
		walk(i, 0)
	}
	return least
}
