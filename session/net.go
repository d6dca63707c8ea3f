package session

import (
	"slices"
	"strings"

	"epact/api"
	"epact/print"
	"epact/prop"
	"epact/solve"
)

// variable adds a variable.
func (s *Session) variable(c api.Command) string {
	if slices.Contains(s.vars, c.Names[0]) {
		return failed(api.ErrKnown)
	}
	if len(s.vars) >= api.MaxVars {
		return failed(api.ErrLong)
	}
	s.vars = append(s.vars, c.Names[0])
	s.net.Vars = len(s.vars)
	return done
}

// bound adds a constraint.
func (s *Session) bound(c api.Command) string {
	x, y, i := slices.Index(s.vars, c.Names[0]), slices.Index(s.vars, c.Names[1]), s.place(c.Names[2])
	if x < 0 || y < 0 || i < 0 {
		return failed(api.ErrName)
	}
	form := slices.Index(s.used, c.Names[2])
	if len(s.net.Cons) >= api.MaxCons || form < 0 && len(s.used) >= api.MaxForms {
		return failed(api.ErrLong)
	}
	if form < 0 {
		form = len(s.used)
		s.used = append(s.used, c.Names[2])
		s.net.Forms = append(s.net.Forms, s.names[i].form)
	}
	s.net.Cons = append(s.net.Cons, api.Con{X: x, Y: y, Form: form, Range: c.Range})
	return done
}

// count tells how great the network is.
func (s *Session) count(api.Command) string {
	return "vars " + number(s.net.Vars) + " cons " + number(len(s.net.Cons))
}

// infer tells what propagation comes to.
func (s *Session) infer(api.Command) string {
	spread, wrong := prop.Run(s.net, api.MaxRounds)
	if wrong != api.OK {
		return failed(wrong)
	}
	parts := []string{comes(spread.Kind) + " " + number(spread.Rounds)}
	for _, c := range spread.Net.Cons {
		parts = append(parts, s.line(c))
	}
	return strings.Join(parts, "; ")
}

// comes tells what propagation comes to.
func comes(kind uint8) string {
	switch kind {
	case api.SpreadDone:
		return "done"
	case api.SpreadOdd:
		return "odd"
	}
	return "cut"
}

// line is a constraint as it stands in its command.
func (s *Session) line(c api.Con) string {
	names := []string{s.vars[c.X], s.vars[c.Y], s.used[c.Form]}
	line, _ := print.Command(api.Command{Word: "bound", Names: names, Range: c.Range})
	return strings.TrimPrefix(line, "bound ")
}

// solve tells what a search finds.
func (s *Session) solve(c api.Command) string {
	v, wrong := solve.Find(s.net, int(c.Nums[0]), int(c.Nums[1]), int(c.Nums[2]))
	if wrong != api.OK {
		return failed(wrong)
	}
	steps := "steps " + number(v.Steps)
	switch v.Kind {
	case api.FoundNone:
		return "none " + steps
	case api.FoundSpent:
		return "spent " + steps
	}
	parts := []string{"found"}
	for i, t := range v.Ticks {
		parts = append(parts, s.vars[i]+"="+number(t))
	}
	return strings.Join(append(parts, steps), " ")
}

// reset removes the variables and the constraints.
func (s *Session) reset(api.Command) string {
	s.vars, s.used, s.net = nil, nil, api.Net{}
	return done
}
