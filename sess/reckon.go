package sess

import (
	"strings"

	"computus/api"
	"computus/dec"
	"computus/expr"
	"computus/read"
	"computus/word"
)

// reckoner is what an expression's value hangs on beside the expression itself,
// of which kind.Check must tell a kind.
type reckoner struct {
	env  read.Env
	most int // rows of a list
}

// all is an expression's values: those of a list, or one alone.
func (r reckoner) all(n expr.Node) ([]value, api.Errno) {
	if operation(n) != "generate_series" {
		v, e := r.one(n)
		return []value{v}, e
	}
	l, e := r.kids(n)
	if e != api.OK {
		return nil, e
	}
	return r.series(l[0], l[1], l[2])
}

// one is an expression's value.
func (r reckoner) one(n expr.Node) (value, api.Errno) {
	switch n.Kind {
	case expr.Int:
		i, e := word.Number(n.Text)
		return whole(i), e
	case expr.Dec:
		d, e := dec.Read(n.Text)
		return number(d), e
	case expr.Text:
		return phrase(n.Text), api.OK
	case expr.Bool:
		return truth(n.Text == "true"), api.OK
	}
	l, e := r.kids(n)
	if e != api.OK {
		return nil, e
	}
	return r.operate(operation(n), l)
}

// kids is their values; the first error ends it.
func (r reckoner) kids(n expr.Node) ([]value, api.Errno) {
	var l []value
	for _, kid := range n.Kids {
		v, e := r.one(kid)
		if e != api.OK {
			return nil, e
		}
		l = append(l, v)
	}
	return l, api.OK
}

// operation is what a node does, by the name that package kind has for it.
func operation(n expr.Node) string {
	switch n.Kind {
	case expr.Neg:
		return "neg"
	case expr.Not:
		return "not"
	case expr.Lit, expr.Cast:
		return "::" + n.Text
	case expr.Op, expr.Call:
		return n.Text
	}
	return ""
}

// operate is what comes of an operation.
func (r reckoner) operate(op string, l []value) (value, api.Errno) {
	if to, ok := strings.CutPrefix(op, "::"); ok {
		return r.cast(to, l[0])
	}
	switch op {
	case "+":
		return r.plus(l[0], l[1])
	case "-":
		return r.minus(l[0], l[1])
	case "*":
		return times(l[0], l[1])
	case "/", "%":
		return parted(op, int64(l[0].(whole)), int64(l[1].(whole)))
	case "and":
		return l[0].(truth) && l[1].(truth), api.OK
	case "or":
		return l[0].(truth) || l[1].(truth), api.OK
	case "not":
		return !l[0].(truth), api.OK
	case "neg":
		return turned(l[0])
	case "at time zone":
		return r.at(l[0], l[1])
	case "=", "<>", "<", "<=", ">", ">=":
		return truth(holds(op, orderOf(l[0], l[1]))), api.OK
	}
	return r.call(op, l)
}
