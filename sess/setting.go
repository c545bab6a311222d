package sess

import (
	"computus/api"
	"computus/expr"
	"computus/word"
)

// The settings' names.
const (
	timezone      = "timezone"
	datestyle     = "datestyle"
	intervalstyle = "intervalstyle"
)

// The styles' names, each at its number.

func outs() []string { return []string{api.ISO: "ISO", api.SQL: "SQL"} }

func orders() []string { return []string{api.YMD: "YMD", api.DMY: "DMY", api.MDY: "MDY"} }

func spans() []string {
	return []string{api.Postgres: "postgres", api.SQLSpan: "sql_standard", api.ISOSpan: "iso_8601"}
}

// isSet: do the parts of a statement begin as those of a SET?
func isSet(parts []word.Part) bool {
	return isName(parts, 0, "set") && len(parts) > 2 && namesOne(parts) &&
		(parts[2].Text == "=" || isName(parts, 2, "to"))
}

// namesOne: is what follows a statement's first part a name, be it of a
// setting or not?
func namesOne(parts []word.Part) bool {
	return len(parts) > 1 && parts[1].Kind == word.Letters
}

// isName: is the i-th part there, and that name?
func isName(parts []word.Part, i int, name string) bool {
	return i < len(parts) && word.Same(parts[i].Text, name)
}

// behind is the place that follows a part.
func behind(p word.Part) int {
	return p.At + len(p.Text)
}

// set changes a setting to what the statement says from a place on, if that
// can be.
func (s *Session) set(name, text string, from int) Answer {
	n, at, e := expr.Parse(text[from:])
	if e != api.OK {
		return Answer{Err: e, At: from + at}
	}
	if n.Kind != expr.Text {
		return Answer{Err: api.ErrSyntax}
	}
	return Answer{Err: s.change(word.Lower(name), n.Text)}
}

// change is a SET behind its reading.
func (s *Session) change(name, to string) api.Errno {
	switch name {
	case timezone:
		return s.setZone(to)
	case datestyle:
		return s.setDates(to)
	case intervalstyle:
		return s.setSpans(to)
	}
	return api.ErrName
}

func (s *Session) setZone(name string) api.Errno {
	z, e := s.env.Book.Find(name)
	if e != api.OK {
		return e
	}
	s.env.Zone, s.zone = z, name
	return api.OK
}

// setDates is behind all words only: one that is wrong changes nothing.
func (s *Session) setDates(text string) api.Errno {
	style := s.env.Style
	named, ordered := 0, 0
	for _, w := range styleWords(text) {
		if out := word.Known(w, outs()); out >= 0 {
			style.Out = out
			named++
		} else if order := word.Known(w, orders()); order >= 0 {
			style.Order = order
			ordered++
		} else {
			return api.ErrLiteral
		}
	}
	if named > 1 || ordered > 1 || named+ordered == 0 {
		return api.ErrLiteral
	}
	s.env.Style = style
	return api.OK
}

func (s *Session) setSpans(text string) api.Errno {
	style := word.Known(text, spans())
	if style < 0 {
		return api.ErrLiteral
	}
	s.env.Style.Span = style
	return api.OK
}

// styleWords is what stands between blanks and commas.
func styleWords(text string) []string {
	var l []string
	begin := 0
	for i, r := range text + "," {
		if !isBetween(r) {
			continue
		}
		if begin < i {
			l = append(l, text[begin:i])
		}
		begin = i + 1
	}
	return l
}

// isBetween: does it stand between words?
func isBetween(r rune) bool {
	return r == ',' || r == ' ' || r == '\t' || r == '\n' || r == '\r'
}

// setting is what comes of a SHOW.
func (s *Session) setting(parts []word.Part) Answer {
	// What is no name is none that nobody knows, either.
	if len(parts) != 2 || !namesOne(parts) {
		return Answer{Err: api.ErrSyntax}
	}
	row, e := s.settingNamed(word.Lower(parts[1].Text))
	if e != api.OK {
		return Answer{Err: e}
	}
	return Answer{Kind: api.KText, Rows: []string{row}}
}

func (s *Session) settingNamed(name string) (string, api.Errno) {
	style := s.env.Style
	switch name {
	case timezone:
		return s.env.Book.Real(s.zone)
	case datestyle:
		return outs()[style.Out] + ", " + orders()[style.Order], api.OK
	case intervalstyle:
		return spans()[style.Span], api.OK
	}
	return "", api.ErrName
}
