package print

import (
	"math"
	"math/rand"
	"slices"
	"strings"
	"testing"

	"epact/api"
	"epact/expr"
	"epact/lex"
	"epact/parse"
)

func name(s string) api.Expr { return api.Expr{Name: s} }

func op(o uint8, nums []int64, args ...api.Expr) api.Expr {
	return api.Expr{Op: o, Nums: nums, Args: args}
}

var day3 = op(api.OpGroup, []int64{3}, api.Expr{Name: "day"})

// P12.1
func TestExpr(t *testing.T) {
	for want, x := range map[string]api.Expr{
		"day": name("day"), "group": name("group"), "group(3, day)": day3,
		"subset(-1, 9223372036854775807, x)": op(api.OpSubset, []int64{-1, math.MaxInt64}, name("x")),
		"alter(1, 2, 3, a, group(3, day))":   op(api.OpAlter, []int64{1, 2, 3}, name("a"), day3),
		"union(group(3, day), b)":            op(api.OpUnion, nil, day3, name("b")),
		"down(1, -1, up(a, b), meet(0, 0, combine(c, d), anchor(cut(e, f), less(g, shift(5, h)))))": op(api.OpDown, []int64{1, -1}, op(api.OpUp, nil, name("a"), name("b")),
			op(api.OpMeet, []int64{0, 0}, op(api.OpCombine, nil, name("c"), name("d")), op(api.OpAnchor, nil, op(api.OpCut, nil, name("e"), name("f")), op(api.OpLess, nil, name("g"), op(api.OpShift, []int64{5}, name("h")))))),
	} {
		if s, e := Expr(x); s != want || e != api.OK {
			t.Error(want, s, e)
		}
	}
	for _, x := range []api.Expr{{}, name("9"), op(api.OpGroup, nil, name("day")), op(99, nil), op(api.OpUnion, nil, name("a"), name("b c"))} {
		if s, e := Expr(x); s != "" || e != api.ErrSyntax {
			t.Error(x, s, e)
		}
	}
}

// P12.1
func TestCommand(t *testing.T) {
	xyz := []string{"x", "y", "day"}
	for want, c := range map[string]api.Command{
		"bound x y day [1:]":       {Word: "bound", Names: xyz, Range: api.Range{Low: 1, HasLow: true}},
		"bound x y day [:-1]":      {Word: "bound", Names: xyz, Range: api.Range{High: -1, HasHigh: true}},
		"bound x y day [:]":        {Word: "bound", Names: xyz},
		"bound x y day [0:0]":      {Word: "bound", Names: xyz, Range: api.Range{HasLow: true, HasHigh: true}},
		"define a = group(3, day)": {Word: "define", Names: xyz[:0:0], Expr: day3},
		"net":                      {Word: "net", Names: []string{}, Nums: []int64{}}, "show a": {Word: "show", Names: []string{"a"}}, "date -5": {Word: "date", Nums: []int64{-5}},
		"cover x y 3": {Word: "cover", Names: xyz[:2], Nums: []int64{3}}, "solve 1 2 3": {Word: "solve", Nums: []int64{1, 2, 3}}, "rel x y": {Word: "rel", Names: xyz[:2]},
	} {
		if c.Word == "define" {
			c.Names = []string{"a"}
		}
		if s, e := Command(c); s != want || e != api.OK || !Right(c) {
			t.Error(want, s, e)
		}
	}
	for i, c := range []api.Command{
		{}, {Word: "Show", Names: []string{"a"}}, {Word: "show"}, {Word: "show", Names: []string{"a", "b"}}, {Word: "show", Names: []string{"9"}}, {Word: "show", Names: []string{""}},
		{Word: "show", Names: []string{"a"}, Nums: []int64{1}}, {Word: "show", Names: []string{"a"}, Expr: name("b")}, {Word: "show", Names: []string{"a"}, Range: api.Range{HasLow: true}}, {Word: "show", Names: []string{"a"}, Range: api.Range{High: 1}},
		{Word: "net", Expr: api.Expr{Op: 1}}, {Word: "net", Expr: api.Expr{Nums: []int64{1}}}, {Word: "net", Expr: api.Expr{Args: []api.Expr{{}}}},
		{Word: "define", Names: []string{"a"}}, {Word: "define", Names: []string{"a"}, Expr: name("b c")}, {Word: "define", Names: []string{"a"}, Expr: name("b"), Range: api.Range{Low: 1}},
		{Word: "bound", Names: xyz, Range: api.Range{Low: 1}}, {Word: "bound", Names: xyz, Range: api.Range{High: 1, HasLow: true}}, {Word: "bound", Names: xyz[:2]}, {Word: "date"}, {Word: "solve", Nums: []int64{1, 2}},
	} {
		if s, e := Command(c); s != "" || e != api.ErrSyntax || Right(c) {
			t.Error(i, s, e)
		}
	}
}

func someExpr(rng *rand.Rand, depth int) api.Expr {
	if depth == 0 || rng.Intn(4) == 0 {
		return name([]string{"a", "day", "group", "less", "_9"}[rng.Intn(5)])
	}
	x := api.Expr{Op: uint8(1 + rng.Intn(12))}
	nums, _ := expr.Nums(x.Op)
	for range nums {
		x.Nums = append(x.Nums, int64(rng.Intn(9)-4))
	}
	for range expr.Args(x.Op) {
		x.Args = append(x.Args, someExpr(rng, depth-1))
	}
	return x
}

// P12.2
func TestThereAndBack(t *testing.T) {
	rng := rand.New(rand.NewSource(12))
	for range 5000 {
		x, y := someExpr(rng, rng.Intn(5)), someExpr(rng, rng.Intn(3))
		s, e := Expr(x)
		l, at := lex.Words(s)
		back, place, f := parse.Expr(l)
		if e != api.OK || at != -1 || f != api.OK || place != -1 || !expr.Same(back, x) {
			t.Fatal(x, s, back, f)
		}
		if other, _ := Expr(y); (other == s) != expr.Same(x, y) {
			t.Fatal(s, other)
		}
	}
	words := strings.Fields("define drop show form var extent granule next prev span rel cover bound date solve net infer reset")
	for range 5000 {
		c := api.Command{Word: words[rng.Intn(len(words))]}
		shape, _ := parse.Shape(c.Word)
		for _, letter := range shape {
			switch letter {
			case 'n':
				c.Names = append(c.Names, []string{"a", "b", "define"}[rng.Intn(3)])
			case 'i':
				c.Nums = append(c.Nums, rng.Int63()-1<<62)
			case 'e':
				c.Expr = someExpr(rng, 3)
			case 'r':
				if c.Range.HasLow = rng.Intn(2) == 0; c.Range.HasLow {
					c.Range.Low = int64(rng.Intn(3) - 1)
				}
				if c.Range.HasHigh = rng.Intn(2) == 0; c.Range.HasHigh {
					c.Range.High = int64(rng.Intn(3) - 1)
				}
			}
		}
		s, e := Command(c)
		l, at := lex.Words(s)
		back, place, f := parse.Command(l)
		if e != api.OK || at != -1 || f != api.OK || place != -1 || back.Word != c.Word || !slices.Equal(back.Names, c.Names) || !slices.Equal(back.Nums, c.Nums) || back.Range != c.Range || !expr.Same(back.Expr, c.Expr) {
			t.Fatal(c, s, back, f)
		}
	}
}
