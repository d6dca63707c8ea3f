package session

import (
	"strconv"
	"strings"

	"epact/api"
	"epact/conv"
	"epact/date"
	"epact/find"
	"epact/gran"
	"epact/print"
	"epact/rel"
	"epact/size"
)

// forms returns the forms of all names of a command.
func (s *Session) forms(c api.Command) ([]api.Form, api.Errno) {
	var l []api.Form
	for _, name := range c.Names {
		i := s.place(name)
		if i < 0 {
			return nil, api.ErrName
		}
		l = append(l, s.names[i].form)
	}
	return l, api.OK
}

// number is how a number is written.
func number(n int) string { return strconv.Itoa(n) }

// known is how a number is written that there may be none of.
func known(n int, ok bool) string {
	if !ok {
		return undefined
	}
	return number(n)
}

// show tells what a name was defined by.
func (s *Session) show(c api.Command) string {
	i := s.place(c.Names[0])
	if i < 0 {
		return failed(api.ErrName)
	}
	e := s.names[i]
	if e.built {
		return e.name + " built"
	}
	line, wrong := print.Expr(e.expr)
	if wrong != api.OK {
		return failed(wrong)
	}
	return e.name + " = " + line
}

// describe tells how great a form is.
func (s *Session) describe(c api.Command) string {
	l, wrong := s.forms(c)
	if wrong != api.OK {
		return failed(wrong)
	}
	f := l[0]
	return "period " + number(f.Period) + " count " + number(f.Count) + " odd " + number(len(f.Odd)) + " spans " + number(gran.Size(f))
}

// extent tells the first and the last tick of a granule.
func (s *Session) extent(c api.Command) string {
	l, wrong := s.forms(c)
	if wrong != api.OK {
		return failed(wrong)
	}
	hull, ok := conv.Extent(l[0], int(c.Nums[0]))
	if !ok {
		return undefined
	}
	return number(hull.From) + " to " + number(hull.To)
}

// found tells an index that is looked for in a form by a number.
func (s *Session) found(c api.Command, look func(f api.Form, n int) (int, bool)) string {
	l, wrong := s.forms(c)
	if wrong != api.OK {
		return failed(wrong)
	}
	return known(look(l[0], int(c.Nums[0])))
}

// granule tells the index of the granule of a tick.
func (s *Session) granule(c api.Command) string { return s.found(c, find.At) }

// next tells the index of the next granule.
func (s *Session) next(c api.Command) string { return s.found(c, conv.Next) }

// prev tells the index of the granule before.
func (s *Session) prev(c api.Command) string { return s.found(c, conv.Prev) }

// cover tells the index of the granule that covers one of another form.
func (s *Session) cover(c api.Command) string {
	l, wrong := s.forms(c)
	if wrong != api.OK {
		return failed(wrong)
	}
	return known(conv.Cover(l[0], l[1], int(c.Nums[0])))
}

// span tells how far apart granules are.
func (s *Session) span(c api.Command) string {
	l, wrong := s.forms(c)
	if wrong != api.OK {
		return failed(wrong)
	}
	least, some, wrong := size.Least(l[0], int(c.Nums[0]))
	if wrong != api.OK {
		return failed(wrong)
	}
	most, _, wrong := size.Most(l[0], int(c.Nums[0]))
	if wrong != api.OK {
		return failed(wrong)
	}
	if !some {
		return undefined
	}
	return "least " + number(least) + " most " + number(most)
}

// answer is how a relation is written.
func answer(yes bool, wrong api.Errno) string {
	switch {
	case wrong != api.OK:
		return failed(wrong)
	case yes:
		return "yes"
	}
	return "no"
}

// relate tells how two forms are related.
func (s *Session) relate(c api.Command) string {
	l, wrong := s.forms(c)
	if wrong != api.OK {
		return failed(wrong)
	}
	a, b := l[0], l[1]
	shift := "none"
	if by, ok := rel.Shift(a, b); ok {
		shift = number(by)
	}
	return strings.Join([]string{
		"finer", answer(rel.Finer(a, b)),
		"into", answer(rel.Into(a, b)),
		"parts", answer(rel.Parts(a, b)),
		"sub", answer(rel.Sub(a, b)),
		"turns", answer(rel.Turns(a, b)),
		"shift", shift,
	}, " ")
}

// date tells the text of a date.
func (s *Session) date(c api.Command) string {
	text, wrong := date.Text(c.Nums[0])
	if wrong != api.OK {
		return undefined
	}
	return text
}
