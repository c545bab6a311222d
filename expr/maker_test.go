package expr_test

import (
	"math/rand"
	"strconv"
	"strings"

	"computus/expr"
)

const room = 1200 // bytes, behind which an expression comes to its end

// maker writes an expression by chance, and knows which one it is.
type maker struct {
	r       *rand.Rand
	b       strings.Builder
	word    bool // is the last token a name?
	deep    int
	tooDeep int   // the place of the first part that is too deep, or -1
	call    bool  // is that a call?
	most    int   // how deep it may go
	places  []int // of all tokens
	keen    int   // how often of a hundred a part stands in another one
}

func newMaker(r *rand.Rand, most, keen int) *maker {
	return &maker{r: r, tooDeep: -1, most: most, keen: keen}
}

// put writes a token, with blanks ahead of it where there may or must be some,
// and tells its place.
func (m *maker) put(t string) int {
	c := t[0]
	name := c == '_' || c >= 'a' && c <= 'z' || c >= 'A' && c <= 'Z' || c >= 128
	blanks := []string{"", "", "", " ", "  ", "\t", "\r\n"}
	if m.word && (name || c >= '0' && c <= '9') {
		blanks = blanks[3:]
	}
	m.b.WriteString(blanks[m.r.Intn(len(blanks))])
	m.word = name
	at := m.b.Len()
	m.places = append(m.places, at)
	if name && m.r.Intn(4) == 0 {
		t = mixed(m.r, t)
	}
	m.b.WriteString(t)
	return at
}

// mixed is a name with some of a to z as great letters.
func mixed(r *rand.Rand, t string) string {
	b := []byte(t)
	for i, c := range b {
		if c >= 'a' && c <= 'z' && r.Intn(2) == 0 {
			b[i] = c - 32
		}
	}
	return string(b)
}

func (m *maker) pick(l ...string) string { return l[m.r.Intn(len(l))] }

// often is false where there is no more room: else what is keen would not end.
func (m *maker) often(many int) bool { return m.b.Len() < room && m.r.Intn(100) < many }

// in is a part that stands in another one, which begins at a place.
func (m *maker) in(at int, call bool, part func() expr.Node) expr.Node {
	m.deep++
	if m.deep > 20 && m.tooDeep < 0 {
		m.tooDeep, m.call = at, call
	}
	n := part()
	m.deep--
	return n
}

func (m *maker) row(part func() expr.Node, signs ...string) expr.Node {
	n := part()
	for m.often(25) {
		s := m.pick(signs...)
		at := m.put(s)
		n = expr.Node{Kind: 8, Text: s, Kids: []expr.Node{n, part()}, At: at}
	}
	return n
}

func (m *maker) expr() expr.Node { return m.row(m.and, "or") }

func (m *maker) and() expr.Node { return m.row(m.not, "and") }

func (m *maker) not() expr.Node {
	if m.deep >= m.most || !m.often(m.keen/2) {
		return m.cmp()
	}
	at := m.put("not")
	return expr.Node{Kind: 7, Kids: []expr.Node{m.in(at, false, m.not)}, At: at}
}

func (m *maker) cmp() expr.Node {
	n := m.sum()
	if m.often(20) {
		s := m.pick("=", "<>", "<", "<=", ">", ">=")
		at := m.put(s)
		n = expr.Node{Kind: 8, Text: s, Kids: []expr.Node{n, m.sum()}, At: at}
	}
	return n
}

func (m *maker) sum() expr.Node { return m.row(m.term, "+", "-") }

func (m *maker) term() expr.Node { return m.row(m.unary, "*", "/", "%") }

func (m *maker) unary() expr.Node {
	if m.deep >= m.most || !m.often(m.keen/2) {
		return m.zone()
	}
	at := m.put("-")
	return expr.Node{Kind: 6, Kids: []expr.Node{m.in(at, false, m.unary)}, At: at}
}

func (m *maker) zone() expr.Node {
	n := m.cast()
	for m.often(10) {
		at := m.put("at")
		m.put("time")
		m.put("zone")
		n = expr.Node{Kind: 8, Text: "at time zone", Kids: []expr.Node{n, m.cast()}, At: at}
	}
	return n
}

func (m *maker) cast() expr.Node {
	n := m.prim()
	for m.often(10) {
		at := m.put("::")
		s := m.name()
		m.put(s)
		n = expr.Node{Kind: 10, Text: s, Kids: []expr.Node{n}, At: at}
	}
	return n
}

func (m *maker) name() string {
	return m.pick("date", "timestamp", "timestamptz", "interval", "f", "x1", "a_b", "_", "__9", "int", "numeric", "text", "äöü", "a1b2", "notx", "andor", "trueish", "times", "zones", "generate_series", "\u0080", "\uFFFD")
}

func (m *maker) text() expr.Node {
	said := m.pick("", "'", "''", "a", "it's", "'a'", "2024-01-01", " ", "--", "x''y", "ä\t\n", "not", "(", "1 + 2", "<=", "\uFFFD")
	at := m.put("'" + strings.ReplaceAll(said, "'", "''") + "'")
	return expr.Node{Kind: 3, Text: said, At: at}
}

func (m *maker) prim() expr.Node {
	if m.deep < m.most && m.often(m.keen) {
		return m.inner()
	}
	switch m.r.Intn(5) {
	case 0:
		s := strconv.Itoa(m.r.Intn(1000)) + "." + m.pick("0", "5", "123456789012", "00")
		return expr.Node{Kind: 2, Text: s, At: m.put(s)}
	case 1:
		return m.text()
	case 2:
		s := m.pick("true", "false")
		return expr.Node{Kind: 4, Text: s, At: m.put(s)}
	case 3:
		s := m.pick("date", "timestamp", "timestamptz", "interval")
		at := m.put(s)
		return expr.Node{Kind: 5, Text: s, Kids: []expr.Node{m.text()}, At: at}
	}
	s := m.pick("0", "007", "1", "99999999999999999999999")
	return expr.Node{Kind: 1, Text: s, At: m.put(s)}
}

// inner is brackets, or a call.
func (m *maker) inner() expr.Node {
	if m.often(50) {
		at := m.put("(")
		return m.in(at, false, func() expr.Node {
			n := m.expr()
			m.put(")")
			return n
		})
	}
	s := m.name()
	at := m.put(s)
	m.put("(")
	return m.in(at, true, func() expr.Node {
		n := expr.Node{Kind: 9, Text: s, At: at}
		for i := range m.r.Intn(4) {
			if i > 0 {
				m.put(",")
			}
			n.Kids = append(n.Kids, m.expr())
		}
		m.put(")")
		return n
	})
}
