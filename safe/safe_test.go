package safe

import (
	"math"
	"math/big"
	"testing"

	"epact/api"
)

const (
	least = math.MinInt
	most  = math.MaxInt
)

// edges are the numbers near which sums, products and quotients leave the range.
func edges() []int {
	l := []int{least, least + 1, least + 2, least / 2, least/2 - 1, -1 << 32, -1<<31 - 1, most / 2, most/2 + 1, most - 1, most, 1 << 32, 3037000499, 3037000500, -3037000500}
	for n := -13; n <= 13; n++ {
		l = append(l, n)
	}
	return l
}

func fits(t *testing.T, what string, a, b, got int, wrong api.Errno, want *big.Int) {
	t.Helper()
	if want.IsInt64() {
		if wrong != api.OK || int64(got) != want.Int64() {
			t.Errorf("%s %d %d: %d %d, want %v", what, a, b, got, wrong, want)
		}
	} else if wrong != api.ErrOver || got != 0 {
		t.Errorf("%s %d %d: %d %d, want ErrOver", what, a, b, got, wrong)
	}
}

// P1.1
func TestAddSubMul(t *testing.T) {
	for _, a := range edges() {
		for _, b := range edges() {
			x, y := big.NewInt(int64(a)), big.NewInt(int64(b))
			n, wrong := Add(a, b)
			fits(t, "add", a, b, n, wrong, new(big.Int).Add(x, y))
			n, wrong = Sub(a, b)
			fits(t, "sub", a, b, n, wrong, new(big.Int).Sub(x, y))
			n, wrong = Mul(a, b)
			fits(t, "mul", a, b, n, wrong, new(big.Int).Mul(x, y))
		}
	}
}

// P1.2
func TestFloor(t *testing.T) {
	for _, x := range [][4]int{{-7, 2, -4, 1}, {7, -2, -4, -1}, {6, 3, 2, 0}, {-6, 3, -2, 0}, {0, 5, 0, 0}, {least, 1, least, 0}, {most, -1, -most, 0}, {-1, most, -1, most - 1}} {
		if q, r, e := Floor(x[0], x[1]); q != x[2] || r != x[3] || e != api.OK {
			t.Error(x, q, r, e)
		}
	}
	for _, a := range edges() {
		if q, r, e := Floor(a, 0); q != 0 || r != 0 || e != api.ErrZero {
			t.Error(a, q, r, e)
		}
	}
	if q, r, e := Floor(least, -1); q != 0 || r != 0 || e != api.ErrOver {
		t.Error(q, r, e)
	}
}

// P1.3
func TestGcdLcm(t *testing.T) {
	for _, x := range []struct{ a, b, gcd, lcm int }{{12, -18, 6, 36}, {4, 6, 2, 12}, {0, 5, 5, 0}, {0, 0, 0, 0}, {-9, 0, 9, 0}, {1, 7, 1, 7}, {-5, -5, 5, 5}, {most, most, most, most}} {
		if n, e := Gcd(x.a, x.b); n != x.gcd || e != api.OK {
			t.Error("gcd", x, n, e)
		}
		if n, e := Lcm(x.a, x.b); n != x.lcm || e != api.OK {
			t.Error("lcm", x, n, e)
		}
	}
	for _, x := range [][2]int{{least, 0}, {0, least}, {least, least}} {
		if n, e := Gcd(x[0], x[1]); n != 0 || e != api.ErrOver {
			t.Error("gcd", x, n, e)
		}
	}
	if n, e := Lcm(0, least); n != 0 || e != api.OK {
		t.Error(n, e)
	}
	for _, x := range [][2]int{{least, 1}, {most, 2}, {1 << 40, 3037000499}, {least, most}} {
		if n, e := Lcm(x[0], x[1]); n != 0 || e != api.ErrOver {
			t.Error("lcm", x, n, e)
		}
	}
}

// P1.4
func TestBounds(t *testing.T) {
	below, above := api.Bound{Inf: -1}, api.Bound{Inf: 1}
	bad := []api.Bound{{Inf: 2}, {Inf: -2}, {Inf: 1, N: 1}, {Inf: -1, N: -3}, {Inf: 127}}
	good := []api.Bound{below, {N: least}, {N: -1}, {}, {N: 1}, {N: most}, above}
	for i, a := range good {
		if !Right(a) {
			t.Error(a)
		}
		for j, b := range good {
			if Less(a, b) != (i < j) {
				t.Error("less", a, b)
			}
		}
		for _, b := range bad {
			if Right(b) || Less(a, b) || Less(b, a) {
				t.Error(b)
			}
			if s, e := Sum(a, b); s != (api.Bound{}) || e != api.ErrArg {
				t.Error(a, b, s, e)
			}
			if s, e := Sum(b, a); s != (api.Bound{}) || e != api.ErrArg {
				t.Error(b, a, s, e)
			}
			if s, e := Minus(b); s != (api.Bound{}) || e != api.ErrArg {
				t.Error(b, s, e)
			}
		}
	}
	for _, x := range []struct {
		a, b, sum api.Bound
		wrong     api.Errno
	}{
		{below, above, api.Bound{}, api.ErrOver}, {above, below, api.Bound{}, api.ErrOver},
		{below, below, below, 0}, {above, above, above, 0},
		{api.Bound{N: 1}, above, above, 0}, {below, api.Bound{N: most}, below, 0},
		{api.Bound{N: 2}, api.Bound{N: -5}, api.Bound{N: -3}, 0},
		{api.Bound{N: most}, api.Bound{N: 1}, api.Bound{}, api.ErrOver},
	} {
		if s, e := Sum(x.a, x.b); s != x.sum || e != x.wrong {
			t.Error(x, s, e)
		}
	}
	for _, x := range [][2]api.Bound{{below, above}, {above, below}, {{N: 5}, {N: -5}}, {{}, {}}, {{N: most}, {N: -most}}} {
		if m, e := Minus(x[0]); m != x[1] || e != api.OK {
			t.Error(x, m, e)
		}
	}
	if m, e := Minus(api.Bound{N: least}); m != (api.Bound{}) || e != api.ErrOver {
		t.Error(m, e)
	}
}

// P1.5
func TestConsequences(t *testing.T) {
	for _, a := range edges() {
		for _, b := range edges() {
			if q, r, e := Floor(a, b); e == api.OK {
				n := new(big.Int).Mul(big.NewInt(int64(q)), big.NewInt(int64(b)))
				if n.Add(n, big.NewInt(int64(r))).Cmp(big.NewInt(int64(a))) != 0 || b > 0 && (r < 0 || r >= b) || b < 0 && (r > 0 || r <= b) {
					t.Error("floor", a, b, q, r)
				}
			}
			g, e := Gcd(a, b)
			l, f := Lcm(a, b)
			if e != api.OK || f != api.OK {
				continue
			}
			p := new(big.Int).Mul(big.NewInt(int64(a)), big.NewInt(int64(b)))
			if new(big.Int).Mul(big.NewInt(int64(g)), big.NewInt(int64(l))).CmpAbs(p) != 0 {
				t.Error("gcd and lcm", a, b, g, l)
			}
		}
	}
}
