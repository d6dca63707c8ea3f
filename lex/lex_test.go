package lex

import (
	"math"
	"math/rand"
	"slices"
	"strings"
	"testing"

	"epact/api"
)

func name(s string) api.Token { return api.Token{Kind: api.TokName, Text: s} }
func mark(s string) api.Token { return api.Token{Kind: api.TokMark, Text: s} }
func num(n int64) api.Token   { return api.Token{Kind: api.TokNumber, N: n} }
func dated(n int64) api.Token { return api.Token{Kind: api.TokDate, N: n} }

// P10.1
func TestWords(t *testing.T) {
	long := strings.Repeat("x", 30)
	for line, want := range map[string][]api.Token{
		"group(3, day)":           {name("group"), mark("("), num(3), mark(","), name("day"), mark(")")},
		"@1970-01-01 -5":          {dated(0), num(-5)},
		"":                        nil,
		" \t ":                    nil,
		"\ta  b\t":                {name("a"), name("b")},
		"()=,:[]":                 {mark("("), mark(")"), mark("="), mark(","), mark(":"), mark("["), mark("]")},
		"0 -1 10":                 {num(0), num(-1), num(10)},
		"9223372036854775807":     {num(math.MaxInt64)},
		"-9223372036854775808":    {num(math.MinInt64)},
		"[-1:@2004-W53-6]":        {mark("["), num(-1), mark(":"), dated(12784), mark("]")},
		"@-0001-12-31":            {dated(-719529)},
		"@2000-366,@2000-02-29":   {dated(11322), mark(","), dated(11016)},
		"a@1970-01-01":            {name("a"), dated(0)},
		"5@1970-01-01":            {num(5), dated(0)},
		"5-3":                     {num(5), num(-3)},
		"a-3":                     {name("a"), num(-3)},
		"_ _9 A9_z":               {name("_"), name("_9"), name("A9_z")},
		long + "(" + long:         {name(long), mark("("), name(long)},
		"@1970-01-01@1970-01-01":  {dated(0), dated(0)},
		"define w = group(7,day)": {name("define"), name("w"), mark("="), name("group"), mark("("), num(7), mark(","), name("day"), mark(")")},
		"3)":                      {num(3), mark(")")},
		"@1970-01-01 x":           {dated(0), name("x")},
	} {
		if l, at := Words(line); !slices.Equal(l, want) || at != -1 {
			t.Error(line, l, at)
		}
	}
	for line, want := range map[string]int{
		"a 05": 2, "a $": 2, "3x": 0, "@1970": 0, "$": 0, "-": 0, "--3": 0, "-0": 0, "00": 0, "-05": 0, " 3_": 1, "a 9223372036854775808": 2, "-9223372036854775809": 0,
		"@": 0, "@x": 0, "a @2001-366": 2, "@-0000-01-01": 0, "@1970-01-01x": 0, "@1970-01-01-5": 0, "x @ 1970-01-01": 2, long + "x": 0, "a " + long + "9": 2, "a\n": 1, "a\x00": 1, "ä": 0, "a.b": 1, "a+1": 1, "- 3": 0, "5 -": 2, "a;b": 1, "a\r": 1, "{": 0,
	} {
		if l, at := Words(line); len(l) != 0 || at != want {
			t.Error(line, l, at)
		}
	}
}

// P10.1
func TestRight(t *testing.T) {
	for _, x := range []api.Token{name("a"), name("_9"), name(strings.Repeat("x", 30)), num(0), num(math.MinInt64), dated(0), dated(-4371587), dated(2932896), mark("("), mark("]"), mark(":")} {
		if !Right(x) {
			t.Error(x)
		}
	}
	for _, x := range []api.Token{{}, name(""), name("9a"), name("a b"), name(strings.Repeat("x", 31)), {Kind: api.TokName, Text: "a", N: 1}, {Kind: api.TokNumber, Text: "3", N: 3}, {Kind: api.TokDate, Text: "x"}, dated(2932897), dated(-4371588), dated(math.MaxInt64), mark(""), mark("(("), mark("()"), mark("@"), mark("a"), {Kind: api.TokMark, Text: "(", N: 1}, {Kind: 5, Text: "a"}, {Kind: 255}, {Text: "a"}} {
		if Right(x) {
			t.Error(x)
		}
	}
}

// P10.2
func TestText(t *testing.T) {
	for _, x := range []struct {
		l []api.Token
		s string
	}{
		{nil, ""}, {[]api.Token{name("a"), num(-1)}, "a -1"}, {[]api.Token{dated(-719529), mark("("), num(math.MinInt64)}, "@-0001-12-31 ( -9223372036854775808"},
		{[]api.Token{{}, name("a"), name("9"), mark("="), dated(1 << 40), name("b"), {Kind: 9}}, "a = b"}, {[]api.Token{mark("("), {}, mark(")")}, "( )"}, {[]api.Token{{}}, ""},
	} {
		if s := Text(x.l); s != x.s {
			t.Error(x, s)
		}
	}
}

// P10.3
func TestThereAndBack(t *testing.T) {
	rng := rand.New(rand.NewSource(10))
	for range 5000 {
		var l []api.Token
		for range rng.Intn(8) {
			switch rng.Intn(4) {
			case 0:
				l = append(l, name([]string{"a", "group", "_x", "x9"}[rng.Intn(4)]))
			case 1:
				l = append(l, num(rng.Int63()-1<<62))
			case 2:
				l = append(l, dated(int64(rng.Intn(7000000)-4300000)))
			default:
				l = append(l, mark(marks[rng.Intn(len(marks)):][:1]))
			}
		}
		s := Text(l)
		got, at := Words(s)
		if !slices.Equal(got, l) || at != -1 {
			t.Fatal(l, s, got, at)
		}
		got, at = Words(" " + strings.ReplaceAll(s, " ", "\t  ") + "\t")
		if !slices.Equal(got, l) || at != -1 {
			t.Fatal(l, s, got, at)
		}
	}
}

// R1: whatever the bytes are, there is an answer.
func TestAnyBytes(t *testing.T) {
	rng := rand.New(rand.NewSource(11))
	const bytes = "a_Z09-@ \t(),=:[]1970-01-01W$\x00\xff"
	for range 20000 {
		var b []byte
		for range rng.Intn(20) {
			b = append(b, bytes[rng.Intn(len(bytes))])
		}
		l, at := Words(string(b))
		if at < -1 || at >= len(b) || at >= 0 && len(l) > 0 {
			t.Fatal(b, l, at)
		}
		for _, x := range l {
			if !Right(x) {
				t.Fatal(b, x)
			}
		}
	}
}
