package parse

import (
	"math/rand"
	"slices"
	"strings"
	"testing"

	"epact/api"
	"epact/expr"
	"epact/lex"
)

func read(s string) []api.Token {
	l, at := lex.Words(s)
	if at >= 0 {
		panic(s)
	}
	return l
}

func name(s string) api.Expr { return api.Expr{Name: s} }

func op(o uint8, nums []int64, args ...api.Expr) api.Expr {
	return api.Expr{Op: o, Nums: nums, Args: args}
}

// P11.1
func TestTables(t *testing.T) {
	ops := strings.Fields("group shift subset alter combine anchor down up meet union cut less")
	for i, w := range ops {
		if o, ok := Op(w); o != uint8(i+1) || !ok {
			t.Error(w, o, ok)
		}
	}
	for _, w := range []string{"", "name", "Group", "group ", "day", "define"} {
		if o, ok := Op(w); o != 0 || ok {
			t.Error(w, o, ok)
		}
	}
	for shape, l := range map[string]string{"n=e": "define", "n": "drop show form var", "ni": "extent granule next prev span", "nn": "rel", "nni": "cover", "nnnr": "bound", "i": "date", "iii": "solve", "": "net infer reset"} {
		for _, w := range strings.Fields(l) {
			if s, ok := Shape(w); s != shape || !ok {
				t.Error(w, s, ok)
			}
		}
	}
	for _, w := range []string{"", "Define", "group", "nets", "empty"} {
		if s, ok := Shape(w); s != "" || ok {
			t.Error(w, s, ok)
		}
	}
}

// P11.2
func TestExpr(t *testing.T) {
	for s, want := range map[string]api.Expr{
		"day":                                   name("day"),
		"group":                                 name("group"),
		"group(3, day)":                         op(api.OpGroup, []int64{3}, name("day")),
		"union(a, shift(-1, b))":                op(api.OpUnion, nil, name("a"), op(api.OpShift, []int64{-1}, name("b"))),
		"subset(@1970-01-02, @1970-01-04, day)": op(api.OpSubset, []int64{1, 3}, name("day")),
		"alter(1,2,3,a,b)":                      op(api.OpAlter, []int64{1, 2, 3}, name("a"), name("b")),
		"down(1, 2, up(less, cut), meet(1, -2, combine(a, b), anchor(c, d)))": op(api.OpDown, []int64{1, 2}, op(api.OpUp, nil, name("less"), name("cut")),
			op(api.OpMeet, []int64{1, -2}, op(api.OpCombine, nil, name("a"), name("b")), op(api.OpAnchor, nil, name("c"), name("d")))),
		"less(cut(a,b),union(c,d))": op(api.OpLess, nil, op(api.OpCut, nil, name("a"), name("b")), op(api.OpUnion, nil, name("c"), name("d"))),
	} {
		x, at, e := Expr(read(s))
		if !expr.Same(x, want) || at != -1 || e != api.OK || !expr.Right(x) {
			t.Error(s, x, at, e)
		}
	}
	for s, want := range map[string]int{
		"": 0, "3": 0, "(": 0, "@1970-01-01": 0, "a b": 1, "a (": 1, "day(3)": 1, "group(": 2, "group()": 2, "group(day)": 2, "group(3": 3, "group(3)": 3, "group(3,": 4, "group(3,)": 4, "group(3 day)": 3, "group(3, day": 5,
		"group(3, day,": 5, "group(3, day, day)": 5, "group(3, 4, day)": 4, "group(3, day))": 6, "group(3, day) x": 6, "union(a)": 3, "union(a,b": 5, "union(1, a)": 2, "union(, a)": 2, "union(a, group(day))": 6, "alter(1, 2, a, b)": 6, "group = 3": 1, "subset(1, a)": 4,
	} {
		if x, at, e := Expr(read(s)); x.Op != 0 || x.Name != "" || x.Args != nil || x.Nums != nil || at != want || e != api.ErrSyntax {
			t.Error(s, x, at, e)
		}
	}
}

// P11.2: tokens are taken as they are.
func TestAnyTokens(t *testing.T) {
	odd := []api.Token{{Kind: api.TokName, Text: "9 a", N: 5}}
	if x, at, e := Expr(odd); x.Name != "9 a" || at != -1 || e != api.OK || expr.Right(x) {
		t.Error(x, at, e)
	}
	if x, at, e := Expr([]api.Token{{Kind: api.TokName}}); x.Name != "" || at != -1 || e != api.OK {
		t.Error(x, at, e)
	}
	l := read("group(3, day)")
	l[2].Kind, l[2].N = api.TokDate, 1<<62
	if x, _, e := Expr(l); e != api.OK || x.Nums[0] != 1<<62 {
		t.Error(x, e)
	}
	l[0].Kind = 7
	if _, at, e := Expr(l); at != 0 || e != api.ErrSyntax {
		t.Error(at, e)
	}
}

func nested(depth int) string {
	return strings.Repeat("group(1,", depth-1) + "day" + strings.Repeat(")", depth-1)
}

// wide is an expression with 2n + 1 parts: unions of unions, not deep.
func wide(n int) string {
	if n == 0 {
		return "a"
	}
	return "union(" + wide((n-1)/2) + "," + wide(n-1-(n-1)/2) + ")"
}

// P11.2
func TestDepth(t *testing.T) {
	if x, at, e := Expr(read(nested(40))); e != api.OK || at != -1 || expr.Depth(x) != 40 {
		t.Error(at, e)
	}
	for s, want := range map[string]int{nested(41): 160, nested(60): 160, strings.Repeat("group(1,", 40) + "day day": 160, strings.Repeat("group(1,", 40) + "group": 160} {
		if x, at, e := Expr(read(s)); e != api.ErrDepth || at != want || x.Args != nil {
			t.Error(at, e)
		}
	}
	for s, want := range map[string]int{strings.Repeat("group(1,", 40): 160, strings.Repeat("group(1,", 40) + ")": 160, strings.Repeat("group(1,", 40) + "3": 160, strings.Repeat("group(1,", 39) + "day day": 157} {
		if _, at, e := Expr(read(s)); e != api.ErrSyntax || at != want {
			t.Error(at, e)
		}
	}
	if x, at, e := Expr(read(wide(999))); e != api.OK || at != -1 || expr.Count(x) != 1999 {
		t.Error(at, e)
	}
	if x, at, e := Expr(read("group(1," + wide(999) + ")")); e != api.OK || at != -1 || expr.Count(x) != 2000 {
		t.Error(at, e)
	}
	l := read(wide(1000))
	last := len(l) - 1
	for l[last].Kind != api.TokName {
		last--
	}
	if _, at, e := Expr(l); e != api.ErrDepth || at != last {
		t.Error(at, last, e)
	}
	if _, at, e := Expr(append(l[:last:last], api.Token{Kind: api.TokNumber})); e != api.ErrSyntax || at != last {
		t.Error(at, last, e)
	}
}

// P11.3
func TestCommand(t *testing.T) {
	low, high := api.Range{Low: 1, HasLow: true}, api.Range{High: -2, HasHigh: true}
	for s, want := range map[string]api.Command{
		"define a = b":                  {Word: "define", Names: []string{"a"}, Expr: name("b")},
		"define define = group(3, day)": {Word: "define", Names: []string{"define"}, Expr: op(api.OpGroup, []int64{3}, name("day"))},
		"bound x y day [1:]":            {Word: "bound", Names: []string{"x", "y", "day"}, Range: low},
		"bound x y day [:-2]":           {Word: "bound", Names: []string{"x", "y", "day"}, Range: high},
		"bound x y day [:]":             {Word: "bound", Names: []string{"x", "y", "day"}},
		"bound x y day [@1970-01-03:1]": {Word: "bound", Names: []string{"x", "y", "day"}, Range: api.Range{Low: 2, High: 1, HasLow: true, HasHigh: true}},
		"bound x y day [0:0]":           {Word: "bound", Names: []string{"x", "y", "day"}, Range: api.Range{HasLow: true, HasHigh: true}},
		"drop drop":                     {Word: "drop", Names: []string{"drop"}},
		"granule w @1970-01-09":         {Word: "granule", Names: []string{"w"}, Nums: []int64{8}},
		"rel a b":                       {Word: "rel", Names: []string{"a", "b"}},
		"cover a b -4":                  {Word: "cover", Names: []string{"a", "b"}, Nums: []int64{-4}},
		"date 7":                        {Word: "date", Nums: []int64{7}},
		"solve 0 @1970-01-10 1000":      {Word: "solve", Nums: []int64{0, 9, 1000}},
		"net":                           {Word: "net"},
	} {
		c, at, e := Command(read(s))
		if e != api.OK || at != -1 || c.Word != want.Word || !slices.Equal(c.Names, want.Names) || !slices.Equal(c.Nums, want.Nums) || c.Range != want.Range || !expr.Same(c.Expr, want.Expr) {
			t.Error(s, c, at, e)
		}
	}
	for s, want := range map[string]int{
		"": 0, "Show a": 0, "3": 0, "(": 0, "gran": 0, "group a": 0, "define a b": 2, "define": 1, "define a": 2, "define a =": 3, "define a = 3": 3, "define a = b c": 4, "define a = group(7)": 6, "define 3 = a": 1, "define = a": 1,
		"show": 1, "show a b": 2, "show 3": 1, "net x": 1, "extent a": 2, "extent a b": 2, "extent a 1 2": 3, "rel a": 2, "date x": 1, "solve 1 2": 3, "solve 1 2 3 4": 4, "bound x y day": 4, "bound x y day 1": 4, "bound x y day [1]": 6, "bound x y day [1:2": 8, "bound x y day [1:2:3]": 8, "bound x y day [a:]": 5, "bound x y day [:] 1": 7, "bound x y [1:2]": 3, "form day day": 2,
	} {
		if c, at, e := Command(read(s)); c.Word != "" || c.Names != nil || c.Nums != nil || c.Expr.Name != "" || c.Range != (api.Range{}) || at != want || e != api.ErrSyntax {
			t.Error(s, c, at, e)
		}
	}
	if _, at, e := Command(read("define a = " + nested(41) + " x")); at != 163 || e != api.ErrDepth {
		t.Error(at, e)
	}
	if _, at, e := Command([]api.Token{{Kind: api.TokMark, Text: "net"}}); at != 0 || e != api.ErrSyntax {
		t.Error(at, e)
	}
}

// P11.4: no proper prefix of an expression is one, unless the expression ends there.
func TestPrefixes(t *testing.T) {
	l := read("down(1, 2, up(less, cut), meet(1, -2, combine(a, b), anchor(c, d)))")
	for n := range l {
		_, at, e := Expr(l[:n])
		if n == 1 {
			if e != api.OK {
				t.Error(n, e)
			}
		} else if e != api.ErrSyntax || at != n {
			t.Error(n, at, e)
		}
	}
}

// R1: whatever the tokens are, there is an answer.
func TestAnyLists(t *testing.T) {
	rng := rand.New(rand.NewSource(11))
	some := append(read("define bound show solve a day group union alter group union ( ( ( ) , , = : [ ] 1 2 @1970-01-01"), api.Token{}, api.Token{Kind: 9, Text: "("})
	for range 50000 {
		var l []api.Token
		for range rng.Intn(12) {
			l = append(l, some[rng.Intn(len(some))])
		}
		x, at, e := Expr(l)
		if (e == api.OK) != (at == -1) || at > len(l) || e == api.OK && !expr.Right(x) {
			t.Fatal(l, x, at, e)
		}
		if _, at, e := Command(l); (e == api.OK) != (at == -1) || at > len(l) {
			t.Fatal(l, at, e)
		}
	}
}
