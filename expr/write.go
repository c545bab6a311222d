package expr

import "strings"

// String is an expression as a text that Parse reads as the same again.
func String(n Node) string {
	var b strings.Builder
	write(&b, n)
	return b.String()
}

// write puts an expression behind what is written, in brackets where a part of
// another one could be read in two ways.
func write(b *strings.Builder, n Node) {
	switch n.Kind {
	case Int, Dec, Bool:
		b.WriteString(n.Text)
	case Text:
		b.WriteString(quote + strings.ReplaceAll(n.Text, quote, quote+quote) + quote)
	case Lit:
		writeKids(b, n.Text+" ", n.Kids, "", "")
	case Neg:
		writeKids(b, "(- ", n.Kids, "", ")")
	case Not:
		writeKids(b, "(not ", n.Kids, "", ")")
	case Op:
		writeKids(b, "(", n.Kids, " "+n.Text+" ", ")")
	case Call:
		writeKids(b, n.Text+"(", n.Kids, ", ", ")")
	case Cast:
		writeKids(b, "(", n.Kids, "", "::"+n.Text+")")
	}
}

// writeKids puts kids between a head and a tail, with a text between each two.
func writeKids(b *strings.Builder, head string, kids []Node, between, tail string) {
	b.WriteString(head)
	for i, kid := range kids {
		if i > 0 {
			b.WriteString(between)
		}
		write(b, kid)
	}
	b.WriteString(tail)
}
