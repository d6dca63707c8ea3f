package expr

import (
	"slices"
	"strings"
	"testing"

	"epact/api"
)

func name(s string) api.Expr { return api.Expr{Name: s} }

func op(o uint8, nums []int64, args ...api.Expr) api.Expr {
	return api.Expr{Op: o, Nums: nums, Args: args}
}

func group(n int64, x api.Expr) api.Expr { return op(api.OpGroup, []int64{n}, x) }

// chain is an expression of a depth.
func chain(depth int) api.Expr {
	x := name("day")
	for range depth - 1 {
		x = group(1, x)
	}
	return x
}

// bush is an expression of as many parts, an odd number of them.
func bush(parts int) api.Expr {
	if parts < 3 {
		return name("day")
	}
	left := (parts - 1) / 2
	left -= 1 - left%2
	return op(api.OpUnion, nil, bush(left), bush(parts-1-left))
}

// P9.1
func TestOperators(t *testing.T) {
	nums := []int{0, 1, 1, 2, 3, 0, 0, 2, 0, 2, 0, 0, 0}
	args := []int{0, 1, 1, 1, 2, 2, 2, 2, 2, 2, 2, 2, 2}
	for o := range 256 {
		n, ok := Nums(uint8(o))
		if o < len(nums) {
			if n != nums[o] || !ok || Args(uint8(o)) != args[o] {
				t.Error(o, n, ok)
			}
		} else if n != 0 || ok || Args(uint8(o)) != 0 {
			t.Error(o, n, ok)
		}
	}
}

// P9.2
func TestCountDepthNames(t *testing.T) {
	g := group(3, name("day"))
	for _, x := range []struct {
		x            api.Expr
		count, depth int
		names        []string
	}{
		{name("day"), 1, 1, []string{"day"}}, {api.Expr{}, 1, 1, nil}, {g, 2, 2, []string{"day"}},
		{op(api.OpUnion, nil, g, name("day")), 4, 3, []string{"day"}},
		{op(api.OpUnion, nil, op(99, nil, name("b"), name("a"), name("b")), api.Expr{Op: 3, Name: "c d", Args: []api.Expr{name("a"), name("")}}), 8, 3, []string{"b", "a", "c d"}},
		{chain(60), 60, 60, []string{"day"}}, {bush(2001), 2001, 12, []string{"day"}},
	} {
		if Count(x.x) != x.count || !slices.Equal(Names(x.x), x.names) || x.count != 2001 && Depth(x.x) != x.depth {
			t.Error(x, Count(x.x), Depth(x.x), Names(x.x))
		}
	}
}

// P9.2
func TestRight(t *testing.T) {
	day := name("day")
	for i, x := range []api.Expr{
		day, group(3, day), name("_"), name("a9_Z"), name("group"), name(strings.Repeat("x", 30)), group(-1<<63, day),
		op(api.OpShift, []int64{0}, day), op(api.OpSubset, []int64{1, 2}, day), op(api.OpAlter, []int64{1, 2, 3}, day, day), op(api.OpDown, []int64{1, 2}, day, day),
		op(api.OpLess, nil, day, day), op(api.OpMeet, []int64{1, 2}, day, day), op(api.OpUp, []int64{}, day, day), chain(40), bush(1999),
		{Name: "day", Nums: []int64{}, Args: []api.Expr{}}, group(1, bush(1999)),
	} {
		if !Right(x) {
			t.Error(i, x)
		}
	}
	for i, x := range []api.Expr{
		{}, name(""), name("9a"), name("a b"), name("a-b"), name("ä"), name(strings.Repeat("x", 31)), name("a\x00"),
		op(api.OpGroup, nil, day), op(api.OpGroup, []int64{1, 2}, day), op(api.OpGroup, []int64{1}), op(api.OpGroup, []int64{1}, day, day), {Op: api.OpGroup, Name: "x", Nums: []int64{1}, Args: []api.Expr{day}},
		{Name: "day", Nums: []int64{1}}, {Name: "day", Args: []api.Expr{day}}, op(13, nil, day, day), op(255, nil),
		op(api.OpUnion, nil, day), op(api.OpUnion, []int64{1}, day, day), op(api.OpUnion, nil, day, name("9")), group(1, group(2, name("-"))),
		chain(41), bush(2001), group(1, group(2, bush(1999))), op(api.OpAlter, []int64{1, 2}, day, day),
	} {
		if Right(x) {
			t.Error(i, x)
		}
	}
	// Parts that are shared make a tree that is far too great to go through.
	great := day
	for range 60 {
		great = op(api.OpUnion, nil, great, great)
	}
	if Right(great) {
		t.Error("great")
	}
}

// P9.2, P9.3
func TestSameCopy(t *testing.T) {
	a := op(api.OpDown, []int64{1, 2}, group(3, name("day")), name("week"))
	others := []api.Expr{
		op(api.OpMeet, []int64{1, 2}, group(3, name("day")), name("week")), op(api.OpDown, []int64{1, 3}, group(3, name("day")), name("week")),
		op(api.OpDown, []int64{1}, group(3, name("day")), name("week")), op(api.OpDown, []int64{1, 2}, group(4, name("day")), name("week")),
		op(api.OpDown, []int64{1, 2}, group(3, name("day"))), op(api.OpDown, []int64{1, 2}, group(3, name("days")), name("week")),
		op(api.OpDown, []int64{1, 2}, name("week"), group(3, name("day"))), {Op: api.OpDown, Name: "x", Nums: a.Nums, Args: a.Args},
	}
	for _, b := range others {
		if Same(a, b) || Same(b, a) {
			t.Error(b)
		}
	}
	if !Same(name("x"), api.Expr{Name: "x", Nums: []int64{}, Args: []api.Expr{}}) {
		t.Error("empty and nil")
	}
	b := Copy(a)
	if !Same(a, b) || !Same(b, a) || Count(a) != Count(b) || Depth(a) != Depth(b) {
		t.Error(b)
	}
	b.Nums[0], b.Args[0].Nums[0], b.Args[0].Args[0].Name, b.Args[1].Name = 9, 9, "x", "y"
	if a.Nums[0] != 1 || a.Args[0].Nums[0] != 3 || a.Args[0].Args[0].Name != "day" || a.Args[1].Name != "week" {
		t.Error(a)
	}
}

// Depth beyond all that is right does no harm.
func TestDeep(t *testing.T) {
	x := chain(1 << 16)
	if Count(x) != 1<<16 || Depth(x) != 1<<16 || Right(x) || !Same(x, Copy(x)) || len(Names(x)) != 1 {
		t.Error("deep")
	}
}
