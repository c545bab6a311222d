package expr

import (
	"slices"

	"computus/api"
)

// step reads what one line of the grammar derives; false: it can not be there.
type step func() (Node, bool)

// parser goes through the tokens that are left, the end last of them, and holds
// the first error.
type parser struct {
	left []spot
	deep int
	at   int
	err  api.Errno
}

// whole is an expression with nothing behind it.
func (p *parser) whole() (Node, bool) {
	n, ok := p.expr()
	if !ok || !p.take(token{kind: end}) {
		return Node{}, false
	}
	return n, true
}

func (p *parser) expr() (Node, bool) {
	return p.chain(p.and, token{name, "or"})
}

func (p *parser) and() (Node, bool) {
	return p.chain(p.not, token{name, "and"})
}

func (p *parser) not() (Node, bool) {
	return p.ahead(token{name, "not"}, Not, p.not, p.cmp)
}

func (p *parser) cmp() (Node, bool) {
	n, ok := p.sum()
	if !ok || !p.is(token{sign, "="}, token{sign, "<>"}, token{sign, "<"}, token{sign, "<="}, token{sign, ">"}, token{sign, ">="}) {
		return n, ok
	}
	return p.op(n, p.next(), p.sum)
}

func (p *parser) sum() (Node, bool) {
	return p.chain(p.term, token{sign, "+"}, token{sign, "-"})
}

func (p *parser) term() (Node, bool) {
	return p.chain(p.unary, token{sign, "*"}, token{sign, "/"}, token{sign, "%"})
}

func (p *parser) unary() (Node, bool) {
	return p.ahead(token{sign, "-"}, Neg, p.unary, p.zone)
}

func (p *parser) zone() (Node, bool) {
	n, ok := p.cast()
	for ok && p.is(token{name, "at"}) {
		at := p.next()
		if !p.take(token{name, "time"}) || !p.take(token{name, "zone"}) {
			return Node{}, false
		}
		at.text = "at time zone"
		n, ok = p.op(n, at, p.cast)
	}
	return n, ok
}

func (p *parser) cast() (Node, bool) {
	n, ok := p.prim()
	for ok && p.is(token{sign, "::"}) {
		at := p.next().at
		if !isFree(p.left[0].token) {
			return p.wrong()
		}
		n = Node{Kind: Cast, Text: p.next().text, Kids: []Node{n}, At: at}
	}
	return n, ok
}

func (p *parser) prim() (Node, bool) {
	switch now := p.left[0]; {
	case now.kind == digits:
		return p.leaf(Int)
	case now.kind == point:
		return p.leaf(Dec)
	case now.kind == quoted:
		return p.leaf(Text)
	case p.is(token{name, "true"}, token{name, "false"}):
		return p.leaf(Bool)
	case p.is(token{sign, "("}):
		return p.deeper(p.next(), p.inner)
	case isFree(now.token):
		return p.named()
	}
	return p.wrong()
}

// named is what begins with a name: a literal, or a call.
func (p *parser) named() (Node, bool) {
	first := p.next()
	if p.left[0].kind == quoted && isType(first.text) {
		text, _ := p.leaf(Text)
		return Node{Kind: Lit, Text: first.text, Kids: []Node{text}, At: first.at}, true
	}
	if !p.take(token{sign, "("}) {
		return Node{}, false
	}
	n, ok := p.deeper(first, p.kids)
	if !ok {
		return Node{}, false
	}
	n.Text, n.At = first.text, first.at
	return n, true
}

// inner is what stands in brackets, behind the first of them.
func (p *parser) inner() (Node, bool) {
	n, ok := p.expr()
	if !ok || !p.take(token{sign, ")"}) {
		return Node{}, false
	}
	return n, true
}

// kids is a call, behind its bracket, without a name.
func (p *parser) kids() (Node, bool) {
	n := Node{Kind: Call}
	if p.is(token{sign, ")"}) {
		p.next()
		return n, true
	}
	for {
		kid, ok := p.expr()
		if !ok {
			return Node{}, false
		}
		n.Kids = append(n.Kids, kid)
		if !p.is(token{sign, ","}) {
			break
		}
		p.next()
	}
	if !p.take(token{sign, ")"}) {
		return Node{}, false
	}
	return n, true
}

// chain is parts with signs between them, the first ones taken together first.
func (p *parser) chain(part step, signs ...token) (Node, bool) {
	n, ok := part()
	for ok && p.is(signs...) {
		n, ok = p.op(n, p.next(), part)
	}
	return n, ok
}

// op is a node with what comes next beside it.
func (p *parser) op(n Node, sign spot, part step) (Node, bool) {
	second, ok := part()
	if !ok {
		return Node{}, false
	}
	return Node{Kind: Op, Text: sign.text, Kids: []Node{n, second}, At: sign.at}, true
}

// ahead is a node of a kind, if its sign is there; something else, if not.
func (p *parser) ahead(sign token, kind int, same, other step) (Node, bool) {
	if !p.is(sign) {
		return other()
	}
	at := p.next()
	kid, ok := p.deeper(at, same)
	if !ok {
		return Node{}, false
	}
	return Node{Kind: kind, Kids: []Node{kid}, At: at.at}, true
}

// deeper is a part that stands in another one.
func (p *parser) deeper(by spot, part step) (Node, bool) {
	if p.deep == api.MaxNest {
		return p.fail(by.at, api.ErrDeep)
	}
	p.deep++
	n, ok := part()
	p.deep--
	return n, ok
}

// leaf is a node of the next token alone.
func (p *parser) leaf(kind int) (Node, bool) {
	t := p.next()
	return Node{Kind: kind, Text: t.text, At: t.at}, true
}

// is: is the next token one of these?
func (p *parser) is(these ...token) bool {
	return slices.Contains(these, p.left[0].token)
}

// take goes behind the next token, if it is this one.
func (p *parser) take(this token) bool {
	if !p.is(this) {
		p.wrong()
		return false
	}
	p.next()
	return true
}

// next goes behind the next token. Nothing is asked behind the end, which whole
// alone takes.
func (p *parser) next() spot {
	t := p.left[0]
	p.left = p.left[1:]
	return t
}

// wrong tells that the next token can not stand where it does.
func (p *parser) wrong() (Node, bool) {
	return p.fail(p.left[0].at, api.ErrSyntax)
}

func (p *parser) fail(at int, e api.Errno) (Node, bool) {
	p.at, p.err = at, e
	return Node{}, false
}

// isFree: may it be the name of a call or a cast?
func isFree(t token) bool {
	switch t.text {
	case "true", "false", "not", "and", "or", "at", "time", "zone":
		return false
	}
	return t.kind == name
}

func isType(text string) bool {
	switch text {
	case "date", "timestamp", "timestamptz", "interval":
		return true
	}
	return false
}
