package kind

import (
	"computus/api"
	"computus/expr"
)

// What an expression's parts are: written out, of a kind that all can see, or
// an operation on other parts.
type (
	written   int
	operation string
)

// result is what comes of a part.
type result struct {
	kind int
	list bool
}

// check is what comes of a node, or the place of the first one that has no
// kind: kids come ahead of what they are kids of.
func check(n expr.Node) (result, int, bool) {
	part := partOf(n)
	if k, ok := part.(written); ok {
		return result{kind: int(k)}, 0, true
	}
	args, at, ok := checkKids(n.Kids)
	if !ok {
		return result{}, at, false
	}
	if op, ok := part.(operation); ok {
		if k, list, ok := Find(string(op), args); ok {
			return result{k, list}, 0, true
		}
	}
	return result{}, n.At, false
}

// checkKids is the kinds of all kids: none of them may be a list.
func checkKids(kids []expr.Node) ([]int, int, bool) {
	var l []int
	for _, kid := range kids {
		r, at, ok := check(kid)
		if !ok {
			return nil, at, false
		}
		if r.list {
			return nil, kid.At, false
		}
		l = append(l, r.kind)
	}
	return l, 0, true
}

// partOf is what a node is; nil, if expr has no such node.
func partOf(n expr.Node) any {
	switch n.Kind {
	case expr.Int:
		return written(api.KInt)
	case expr.Dec:
		return written(api.KDec)
	case expr.Text:
		return written(api.KText)
	case expr.Bool:
		return written(api.KBool)
	case expr.Neg:
		return operation("neg")
	case expr.Not:
		return operation("not")
	case expr.Op, expr.Call:
		return operation(n.Text)
	case expr.Lit, expr.Cast:
		// A literal is a text that is read as its type, as a cast reads it.
		return operation("::" + n.Text)
	}
	return nil
}
