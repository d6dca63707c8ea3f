package spans

import (
	"math"
	"math/rand"
	"slices"
	"testing"

	"epact/api"
	"epact/sample"
)

// Forms are written in short.
var (
	set = sample.Set
)

const top = api.MaxTick

// of makes the right set of the ticks whose bits are set, as slowly as can be.
func of(bits int) []api.Span {
	var l []api.Span
	for t := range 12 {
		if bits>>t&1 == 0 {
			continue
		}
		if n := len(l); n > 0 && l[n-1].To == t-1 {
			l[n-1].To = t
		} else {
			l = append(l, api.Span{From: t, To: t})
		}
	}
	return l
}

// P2.1
func TestRight(t *testing.T) {
	for _, l := range [][]api.Span{nil, {}, set(1, 1), set(1, 2, 4, 4), set(-top, top), set(-top, -top, top, top)} {
		if !Right(l) {
			t.Error(l)
		}
	}
	for _, l := range [][]api.Span{set(2, 1), set(1, 2, 3, 4), set(1, 2, 2, 4), set(4, 5, 1, 2), set(-top-1, 0), set(0, top+1), set(math.MinInt, math.MaxInt), set(1, 3, 5, 4), set(0, math.MaxInt, math.MinInt, 0)} {
		if Right(l) {
			t.Error(l)
		}
	}
}

// P2.1
func TestMake(t *testing.T) {
	for _, x := range []struct {
		in, out []api.Span
		wrong   api.Errno
	}{
		{set(5, 7, 1, 2, 3, 3), set(1, 3, 5, 7), 0},
		{set(1, 9, 2, 3), set(1, 9), 0},
		{set(4, 4, 4, 4, 1, 2), set(1, 2, 4, 4), 0},
		{set(-top, -top, top, top), set(-top, -top, top, top), 0},
		{nil, nil, 0},
		{set(3, 2), nil, api.ErrArg},
		{set(top, top+1, 3, 2), nil, api.ErrArg},
		{set(1, 2, -top-1, 0), nil, api.ErrRange},
		{set(math.MinInt, math.MaxInt), nil, api.ErrRange},
		{set(top+1, top+1), nil, api.ErrRange},
	} {
		before := slices.Clone(x.in)
		l, e := Make(x.in)
		if !slices.Equal(l, x.out) || e != x.wrong || !slices.Equal(before, x.in) {
			t.Error(x, l, e)
		}
	}
}

// P2.1 to P2.5, for all sets of few ticks.
func TestSmallSets(t *testing.T) {
	rng := rand.New(rand.NewSource(1))
	for range 20000 {
		x, y := rng.Intn(1<<12), rng.Intn(1<<12)
		if rng.Intn(3) == 0 {
			y &= x
		}
		a, b := of(x), of(y)
		for _, c := range []struct {
			what string
			got  []api.Span
			want int
		}{{"union", Union(a, b), x | y}, {"cut", Cut(a, b), x & y}, {"less", Less(a, b), x &^ y}} {
			if !slices.Equal(c.got, of(c.want)) || !Right(c.got) {
				t.Fatal(c.what, a, b, c.got)
			}
		}
		count := 0
		for i := -1; i < 13; i++ {
			in := i >= 0 && i < 12 && x>>i&1 == 1
			if in {
				count++
			}
			if Has(a, i) != in {
				t.Fatal("has", a, i)
			}
		}
		ahead := x == 0 || y == 0 || a[len(a)-1].To < b[0].From
		if Count(a) != count || Within(a, b) != (x&^y == 0) || Meet(a, b) != (x&y != 0) || Same(a, b) != (x == y) || Ahead(a, b) != ahead {
			t.Fatal(a, b)
		}
		if !Same(Union(Less(a, b), Cut(a, b)), a) || Meet(Less(a, b), Cut(a, b)) || !Same(Union(a, b), Union(b, a)) || !Same(Cut(a, b), Cut(b, a)) {
			t.Fatal(a, b)
		}
		by := rng.Intn(100) - 50
		m, e := Move(a, by)
		back, f := Move(m, -by)
		if e != api.OK || f != api.OK || !Right(m) || !Same(back, a) || len(a) > 0 && m[0].From != a[0].From+by {
			t.Fatal("move", a, by, m, back)
		}
	}
}

// P2.2
func TestHullCount(t *testing.T) {
	if h, ok := Hull(set(1, 2, 5, 7)); !ok || h != (api.Span{From: 1, To: 7}) {
		t.Error(h, ok)
	}
	if h, ok := Hull(nil); ok || h != (api.Span{}) {
		t.Error(h, ok)
	}
	if n := Count(set(-top, top)); n != 2*top+1 {
		t.Error(n)
	}
	if !slices.Equal(Less(set(1, 9), set(0, 2, 8, 12)), set(3, 7)) || !slices.Equal(Less(set(-top, top), set(0, 0)), set(-top, -1, 1, top)) {
		t.Error("less")
	}
}

// P2.4
func TestMove(t *testing.T) {
	for _, x := range []struct {
		in    []api.Span
		by    int
		out   []api.Span
		wrong api.Errno
	}{
		{set(5, 7), -5, set(0, 2), 0},
		{nil, math.MaxInt, nil, 0},
		{nil, math.MinInt, nil, 0},
		{set(top, top), 1, nil, api.ErrRange},
		{set(-top, 0), -1, nil, api.ErrRange},
		{set(0, 1), math.MaxInt, nil, api.ErrRange},
		{set(-1, 1), math.MinInt, nil, api.ErrRange},
		{set(-top, -top), 2 * top, set(top, top), 0},
	} {
		if l, e := Move(x.in, x.by); !slices.Equal(l, x.out) || e != x.wrong {
			t.Error(x, l, e)
		}
	}
}

// R1: what is no right set does no harm.
func TestWrongSets(t *testing.T) {
	bad := [][]api.Span{set(3, 1), set(5, 9, 1, 2, 1, 2), set(math.MaxInt, math.MinInt), set(math.MinInt, math.MaxInt, 0, 0), set(1, 1, 1, 1)}
	for _, a := range bad {
		for _, b := range append(bad, set(1, 5)) {
			Union(a, b)
			Cut(b, a)
			Less(a, b)
			Within(a, b)
			Meet(b, a)
			Ahead(a, b)
			Same(a, b)
		}
		Has(a, 1)
		Hull(a)
		Count(a)
		Move(a, 1)
	}
}

// R3: results are in memory of their own.
func TestOwnMemory(t *testing.T) {
	a := set(1, 2, 5, 7)
	m, _ := Make(a)
	v, _ := Move(a, 0)
	for _, l := range [][]api.Span{m, v, Union(a, nil), Union(nil, a), Cut(a, a), Less(a, nil)} {
		l[0].From = -99
		_ = append(l[:1], api.Span{From: -98, To: -98})
	}
	if !slices.Equal(a, set(1, 2, 5, 7)) {
		t.Error(a)
	}
}
