package session

import (
	"math/rand"
	"slices"
	"strconv"
	"strings"
	"testing"

	"epact/api"
	"epact/basis"
	"epact/canon"
	"epact/gran"
	"epact/tag"
)

// examples are those of the document: each line with its text behind the arrow.
var examples = [][][2]string{
	{
		{"define w = group(7, day)", "ok"},
		{"form w", "period 7 count 1 odd 0 spans 1"},
		{"extent w 1", "7 to 13"},
		{"granule w 20", "2"},
		{"next w 2", "3"},
		{"cover day w 8", "1"},
		{"span w 1", "least 1 most 13"},
		{"show w", "w = group(7, day)"},
	},
	{
		{"date 0", "1970-01-01"},
		{"granule day @2000-02-29", "11016"},
		{"extent month 0", "0 to 30"},
		{"granule month @1972-02-29", "25"},
		{"extent year 2", "730 to 1095"},
		{"granule week @1970-01-05", "1"},
		{"date 3000000", "undefined"},
	},
	{
		{"define work = down(1, 5, day, week)", "ok"},
		{"form work", "period 7 count 7 odd 0 spans 5"},
		{"extent work 2", "undefined"},
		{"next work 1", "4"},
		{"prev work 4", "1"},
		{"granule work 3", "undefined"},
		{"define fri = down(-1, 1, work, week)", "ok"},
		{"next fri 1", "8"},
		{"rel fri work", "finer yes into no parts no sub yes turns no shift none"},
	},
	{
		{"define h = subset(4, 4, day)", "ok"},
		{"define open = less(day, h)", "ok"},
		{"form open", "period 1 count 1 odd 1 spans 1"},
		{"define w = combine(week, open)", "ok"},
		{"extent w 1", "5 to 10"},
		{"extent w 0", "-3 to 3"},
		{"form w", "period 7 count 1 odd 1 spans 2"},
		{"cover day w 4", "undefined"},
		{"cover day w 5", "1"},
	},
	{
		{"define m = group(30, day)", "ok"},
		{"define n = alter(1, 0, 2, day, m)", "ok"},
		{"form n", "period 61 count 2 odd 0 spans 2"},
		{"extent n 0", "0 to 30"},
		{"extent n 1", "31 to 60"},
		{"extent n -1", "-30 to -1"},
		{"extent n -2", "-61 to -31"},
		{"define bad = alter(-30, 0, 2, day, m)", "error 51"},
	},
	{
		{"define m = group(10, day)", "ok"},
		{"define first = down(2, 1, day, m)", "ok"},
		{"define t = anchor(day, first)", "ok"},
		{"extent t 1", "1 to 10"},
		{"extent t 2", "undefined"},
		{"granule t 15", "11"},
		{"form t", "period 10 count 10 odd 0 spans 1"},
		{"define u = anchor(day, subset(3, 9, day))", "error 51"},
		{"define v = down(1, 1, day, month)", "error 3"},
	},
	{
		{"define w = group(7, day)", "ok"},
		{"var x", "ok"},
		{"var y", "ok"},
		{"bound x y w [1:1]", "ok"},
		{"bound x y day [:2]", "ok"},
		{"infer", "done 2; x y w [1:1]; x y day [1:2]"},
		{"solve 0 9 1000", "found x=5 y=7 steps 64"},
		{"solve 0 4 1000", "none steps 30"},
		{"solve 0 9 10", "spent steps 10"},
		{"bound x y day [5:]", "ok"},
		{"infer", "odd 1"},
		{"net", "vars 2 cons 3"},
	},
	{
		{"define a b", "error 110 at 2"},
		{"define day = week", "error 280"},
		{"drop day", "error 281"},
		{"drop x", "error 80"},
		{"show", "error 110 at 1"},
		{"form day day", "error 110 at 2"},
		{"$", "error 100 at 0"},
		{"define a = group(0, day)", "error 2"},
		{"define a = group(7)", "error 110 at 6"},
		{"form a", "error 80"},
	},
	{
		{"define w = group(7, day)", "ok"},
		{"rel day w", "finer yes into yes parts yes sub no turns yes shift none"},
		{"rel w day", "finer no into no parts no sub no turns no shift none"},
		{"define v = shift(3, w)", "ok"},
		{"rel v w", "finer yes into yes parts yes sub yes turns yes shift -3"},
		{"rel week w", "finer no into no parts no sub no turns no shift none"},
		{"rel month year", "finer yes into yes parts yes sub no turns yes shift none"},
	},
	{
		{"define a = group(2, day)", "ok"},
		{"define b = group(2, a)", "ok"},
		{"drop a", "ok"},
		{"define a = week", "ok"},
		{"extent b 1", "4 to 7"},
		{"show b", "b = group(2, a)"},
		{"extent a 0", "-3 to 3"},
		{"span b 2", "least 5 most 11"},
		{"net", "vars 0 cons 0"},
		{"reset", "ok"},
	},
}

func begun(t *testing.T) *Session {
	t.Helper()
	s, e := New()
	if e != api.OK || s == nil {
		t.Fatal(e)
	}
	return s
}

// says checks the texts of lines, which stand before their texts.
func says(t *testing.T, s *Session, lines ...string) {
	t.Helper()
	for i := 0; i+1 < len(lines); i += 2 {
		if got := s.Do(lines[i]); got != lines[i+1] {
			t.Errorf("%s: %q, want %q", lines[i], got, lines[i+1])
		}
	}
}

// P28.2
func TestExamples(t *testing.T) {
	for i, l := range examples {
		s := begun(t)
		script, texts := "", ""
		for _, x := range l {
			if got := s.Do(x[0]); got != x[1] {
				t.Errorf("%d: %s: %q, want %q", i+1, x[0], got, x[1])
			}
			script += x[0] + "\n"
			texts += x[1] + "\n"
		}
		if got := begun(t).Play(script); got != texts {
			t.Error(i+1, got)
		}
	}
}

// P28.2: the examples of the chapter.
func TestChapter(t *testing.T) {
	says(t, begun(t), "define w = group(7, day)", "ok", "form w", "period 7 count 1 odd 0 spans 1", "granule w @1970-01-09", "1", "extent w 1", "7 to 13", "rel day w", "finer yes into yes parts yes sub no turns yes shift none",
		"var x", "ok", "var y", "ok", "bound x y w [1:1]", "ok", "bound x y day [:2]", "ok", "infer", "done 2; x y w [1:1]; x y day [1:2]", "solve 0 9 1000", "found x=5 y=7 steps 64", "drop w", "error 281", "show w", "w = group(7, day)", "show day", "day built",
		"granule hour 3", "error 80", "define day = week", "error 280", "gran", "error 110 at 0", "$", "error 100 at 0", "net", "vars 2 cons 2")
}

// P28.2: errors, in their order.
func TestErrors(t *testing.T) {
	s := begun(t)
	long := "date " + strings.Repeat(" ", api.MaxLine-6) + "0"
	deep := "define a = " + strings.Repeat("group(1,", 40) + "day" + strings.Repeat(")", 40)
	says(t, s,
		long, "1970-01-01", long+" ", "error 3", strings.Repeat("$", api.MaxLine+1), "error 3", strings.Repeat(" ", api.MaxLine+1), "error 3", deep, "error 111 at 163",
		"", "", "  \t ", "", "show a\r", "error 100 at 6", "show 05", "error 100 at 5", "Show day", "error 110 at 0", "show day day", "error 110 at 2", "solve 1 2", "error 110 at 3",
		"define day = group(0, night)", "error 280", "define a = group(0, night)", "error 80", "define a = group(0, day)", "error 2", "define a = down(1, 1, day, month)", "error 3", "define a = union(day, week)", "error 51", "define a = group(6000, group(6000, group(6000, group(6000, day))))", "error 20",
		"drop night", "error 80", "drop month", "error 281", "show night", "error 80", "form night", "error 80", "extent night 1", "error 80", "granule night 1", "error 80", "next night 1", "error 80", "prev night 1", "error 80", "cover day night 1", "error 80", "cover night day 1", "error 80", "span night 1", "error 80", "rel night day", "error 80", "rel day night", "error 80",
		"span day 1099511627777", "error 2", "define e = subset(5, 4, day)", "error 2", "define e = subset(5, 5, day)", "ok", "span e 1", "undefined", "span e 0", "least 0 most 0", "extent e 4", "undefined", "next e 5", "undefined", "prev e 5", "undefined", "granule e 4", "undefined", "cover day e 4", "undefined", "extent e -1099511627777", "undefined",
		"date -4371588", "undefined", "date 2932897", "undefined", "date 2932896", "9999-12-31", "date @2004-W53-6", "2005-01-01", "date @-0001-365", "-0001-12-31",
		"bound x y day [:]", "error 80", "var x", "ok", "bound x y day [:]", "error 80", "bound y x day [:]", "error 80", "bound x x night [:]", "error 80", "var x", "error 280", "var day", "ok", "bound x day day [:]", "ok", "net", "vars 2 cons 1",
		"solve 5 4 1", "error 2", "solve 0 5000 1", "error 2", "solve 0 1 10000001", "error 2", "solve 0 1 -1", "error 2", "solve 0 0 2", "found x=0 day=0 steps 2", "solve 0 0 1", "spent steps 1",
		"reset now", "error 110 at 1", "reset", "ok", "net", "vars 0 cons 0", "solve 0 0 0", "found steps 0", "infer", "done 1", "var x", "ok",
	)
}

// P28.2: relations may be errors, by themselves.
func TestRelErrors(t *testing.T) {
	says(t, begun(t), "rel day month", "finer error 3 into yes parts error 3 sub error 3 turns yes shift none", "rel month day", "finer no into error 3 parts error 3 sub no turns error 3 shift none", "define b = shift(-4, day)", "ok", "rel day b", "finer yes into yes parts yes sub yes turns yes shift -4",
		"define one = subset(3, 3, week)", "ok", "rel day one", "finer no into yes parts no sub no turns no shift none", "define two = shift(-9, one)", "ok", "rel one two", "finer yes into yes parts yes sub yes turns no shift -9")
}

// P28.2: limits of a session.
func TestLimits(t *testing.T) {
	s := begun(t)
	for i := range api.MaxNames - 6 {
		says(t, s, "define n"+strconv.Itoa(i)+" = shift("+strconv.Itoa(i)+", day)", "ok")
	}
	says(t, s, "define more = night", "error 3", "define day = night", "error 280", "drop n7", "ok", "define more = night", "error 80", "define more = day", "ok", "define n7 = day", "error 3")
	if l := s.Bindings(); len(l) != api.MaxNames || l[len(l)-1].Name != "more" || l[13].Name != "n8" {
		t.Error(len(l))
	}
	for i := range api.MaxVars {
		says(t, s, "var v"+strconv.Itoa(i), "ok")
	}
	says(t, s, "var v0", "error 280", "var v24", "error 3")
	for i := range api.MaxForms {
		says(t, s, "bound v0 v1 n"+strconv.Itoa(20+i)+" [:]", "ok")
	}
	says(t, s, "bound v0 v1 n40 [:]", "error 3", "bound v0 v1 n50 [:]", "error 3", "bound v0 v1 n20 [:5]", "ok", "bound v0 v99 n50 [:]", "error 80", "bound v0 v1 n999 [:]", "error 80")
	for range api.MaxCons - api.MaxForms - 1 {
		says(t, s, "bound v2 v3 n21 [-1:1]", "ok")
	}
	says(t, s, "net", "vars 24 cons 200", "bound v0 v1 n20 [:5]", "error 3", "bound v0 v1 n999 [:]", "error 80", "drop n20", "error 281", "drop n50", "ok", "reset", "ok", "drop n20", "ok", "net", "vars 0 cons 0")
}

// P28.3: names keep their meaning.
func TestMeaning(t *testing.T) {
	s := begun(t)
	says(t, s, "define a = group(2, day)", "ok", "define b = group(2, a)", "ok", "var x", "ok", "var y", "ok", "bound x y a [1:1]", "ok", "bound y x a [:]", "ok", "bound x y b [@1970-01-01:]", "ok", "drop a", "error 281", "drop b", "error 281", "infer", "done 2; x y a [1:1]; y x a [-2:0]; x y b [0:1]",
		"reset", "ok", "drop a", "ok", "define a = week", "ok", "extent b 1", "4 to 7", "show b", "b = group(2, a)", "extent a 0", "-3 to 3", "show a", "a = week", "drop b", "ok", "extent b 1", "error 80")
	vars, n := s.Net()
	if len(vars) != 0 || n.Vars != 0 || len(n.Forms) != 0 || len(n.Cons) != 0 {
		t.Error(vars, n)
	}
}

// P28.1
func TestBindingsNet(t *testing.T) {
	s := begun(t)
	says(t, s, "define w = group(7, day)", "ok", "var x", "ok", "var y", "ok", "bound x y w [1:]", "ok", "bound y x day [:2]", "ok", "bound x y w [:3]", "ok", "define h = less(week, subset(1, 1, week))", "ok", "bound x y h [:]", "ok")
	l := s.Bindings()
	names := append(basis.Names(), "w", "h")
	for i, b := range l {
		if b.Name != names[i] || !canon.Is(b.Form) {
			t.Error(b.Name)
		}
	}
	vars, n := s.Net()
	want := []api.Con{{X: 0, Y: 1, Form: 0, Range: api.Range{Low: 1, HasLow: true}}, {X: 1, Y: 0, Form: 1, Range: api.Range{High: 2, HasHigh: true}}, {X: 0, Y: 1, Form: 0, Range: api.Range{High: 3, HasHigh: true}}, {X: 0, Y: 1, Form: 2}}
	if len(l) != 8 || !slices.Equal(vars, []string{"x", "y"}) || n.Vars != 2 || len(n.Forms) != 3 || !slices.Equal(n.Cons, want) || n.Forms[0].Period != 7 || n.Forms[1].Period != 1 || len(n.Forms[2].Odd) != 1 {
		t.Error(len(l), vars, n)
	}
	for i := range l {
		l[i].Name = "z"
		for _, set := range l[i].Form.Core {
			set[0].From = -99999
		}
	}
	l[7].Form.Odd[0].Index = 9
	vars[0], n.Cons[0].X, n.Forms[0].Core[0][0].From, n.Forms[2].Odd[0].Index = "z", 9, -9, 9
	n.Forms[1] = api.Form{}
	says(t, s, "extent w 1", "7 to 13", "extent day 1", "1 to 1", "extent h 1", "undefined", "solve 0 9 1000", s.Do("solve 0 9 1000"), "infer", "done 2; x y w [1:4]; y x day [-27:-1]; x y w [0:3]; x y h [0:4]")
	if again, m := s.Net(); again[0] != "x" || m.Cons[0].X != 0 || m.Forms[0].Core[0][0].From != 0 || m.Forms[2].Odd[0].Index != 1 {
		t.Error(again, m)
	}
}

// R5, P28.2
func TestObjects(t *testing.T) {
	good := begun(t)
	other := *good
	for _, s := range []*Session{nil, {}, &other} {
		if s.Do("net") != "error 1" || s.Do("") != "error 1" || s.Do(strings.Repeat(" ", 5000)) != "error 1" || s.Play("net\n$") != "error 1\nerror 1\n" {
			t.Error(s.Do("net"))
		}
		vars, n := s.Net()
		if s.Bindings() != nil || vars != nil || n.Vars != 0 || n.Forms != nil || n.Cons != nil {
			t.Error(vars, n)
		}
	}
	says(t, good, "net", "vars 0 cons 0")
}

// P28.2, P28.3: scripts.
func TestPlay(t *testing.T) {
	lines := []string{"define a = group(2, day)", "", "extent a 1", "  ", "$", "var x", "bound x x a [:]", "infer", "show a", "drop a", "solve 0 3 9"}
	want := "ok\n2 to 3\nerror 100 at 0\nok\nok\ndone 2; x x a [0:0]\na = group(2, day)\nerror 281\nfound x=0 steps 1\n"
	for cut := range lines {
		s := begun(t)
		if got := s.Play(strings.Join(lines[:cut], "\n")) + s.Play(strings.Join(lines[cut:], "\n")); got != want {
			t.Error(cut, got)
		}
	}
	if s := begun(t); s.Play("") != "" || s.Play("\n\n") != "" || s.Play("net") != "vars 0 cons 0\n" || s.Play("net\n\nnet\n") != "vars 0 cons 0\nvars 0 cons 0\n" {
		t.Error("play")
	}
}

// P28.3: whatever the lines are, what is rejected changes nothing, and all stays right.
func TestAnyLines(t *testing.T) {
	rng := rand.New(rand.NewSource(28))
	words := strings.Fields("define drop show form extent granule next prev cover span rel date var bound net infer solve reset day week month year a b c x y z group( shift( subset( union( less( down( anchor( 1, 2, 3, , ) ) = [ ] : [1:2] [:] 0 1 2 5 @1970-01-05 $ 05")
	pick := func(l ...string) string { return l[rng.Intn(len(l))] }
	for range 25 {
		s := begun(t)
		for range 80 {
			line := ""
			name, num := pick("a", "b", "c", "day", "week", "hour"), pick("-1", "0", "1", "2", "7", "@1970-01-08")
			switch rng.Intn(12) {
			case 0:
				for range rng.Intn(8) {
					line += pick(words...) + pick(" ", "", "\t")
				}
			case 1, 2, 3:
				line = "define " + name + " = " + pick("group("+num+", ", "shift("+num+", ", "subset(1, "+num+", ", "union(a, ", "less(day, ", "down(1, "+num+", day, ", "anchor(day, ", "combine(week, ", "(") + pick("a", "b", "day", "week", "group(3, day)") + ")"
			case 4, 5:
				line = "var " + pick("x", "y", "z")
			case 6, 7:
				line = "bound " + pick("x", "y", "w") + " " + pick("x", "y", "z") + " " + name + " " + pick("[:]", "["+num+":]", "[:"+num+"]", "[0:"+num+"]", "[5:1]", "[1]")
			default:
				line = pick("drop "+name, "show "+name, "form "+name, "infer", "solve 0 9 1000", "net", "rel a "+name, "cover a "+name+" "+num, "span "+name+" "+num, "extent "+name+" "+num, "reset")
			}
			before, text := state(s), s.Do(line)
			if text != "ok" && state(s) != before {
				t.Fatal(line, text)
			}
			if _, n := s.Net(); tag.Right(n) != api.OK {
				t.Fatal(line)
			}
		}
		for _, b := range s.Bindings() {
			if gran.Right(b.Form) != api.OK || !canon.Is(b.Form) {
				t.Fatal(b.Name)
			}
		}
	}
}

// state is all that can be seen of a session.
func state(s *Session) string {
	text := s.Play("net\ninfer")
	vars, n := s.Net()
	for _, b := range s.Bindings() {
		text += s.Play("show " + b.Name + "\nform " + b.Name)
	}
	return text + strings.Join(vars, " ") + strconv.Itoa(len(n.Forms))
}
