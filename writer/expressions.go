package writer

import (
	"strconv"

	"glean/tree"
)

func (w *writer) list(list []tree.Expr) {
	for i, e := range list {
		if i > 0 {
			w.put(", ")
		}
		w.expr(e)
	}
}

func (w *writer) bracketed(opening string, list []tree.Expr, closing string) {
	w.put(opening)
	w.list(list)
	w.put(closing)
}

// expr writes an expression; one that is missing is nil.
func (w *writer) expr(e tree.Expr) {
	switch e := e.(type) {
	case tree.Number:
		w.put(strconv.FormatInt(e.Number, 10))
	case tree.String:
		w.quoted(e.Text)
	case tree.Pattern:
		w.put("(/", e.Text, "/)")
	case tree.Name:
		w.put(e.Text)
	case tree.Element:
		w.put(e.Array.Text)
		w.bracketed("[", e.Keys, "]")
	case tree.Field:
		w.put("$")
		w.expr(e.Number)
	case tree.Call:
		w.put(e.Name.Text)
		w.bracketed("(", e.Args, ")")
	case tree.OwnCall:
		w.put(e.Name.Text)
		w.bracketed("(", e.Args, ")")
	case tree.Unary:
		w.put("(", e.Sign)
		w.expr(e.Expr)
		w.put(")")
	case tree.Binary:
		w.between(e.Left, " "+e.Sign+" ", e.Right)
	case tree.Joined:
		w.between(e.Left, " ", e.Right)
	case tree.In:
		w.between(e.Key, " in ", e.Array)
	case tree.Choice:
		w.choice(e)
	case tree.Store:
		w.between(e.Place, " "+e.Sign+" ", e.Right)
	}
}

// between writes two expressions in brackets with a text between them.
func (w *writer) between(left tree.Expr, text string, right tree.Expr) {
	w.put("(")
	w.expr(left)
	w.put(text)
	w.expr(right)
	w.put(")")
}

func (w *writer) choice(e tree.Choice) {
	w.put("(")
	w.expr(e.Condition)
	w.put(" ? ")
	w.expr(e.Yes)
	w.put(" : ")
	w.expr(e.No)
	w.put(")")
}

// quoted writes a string token.
func (w *writer) quoted(text string) {
	w.put(`"`)
	for i := range len(text) {
		switch b := text[i]; b {
		case '\n':
			w.put(`\n`)
		case '\t':
			w.put(`\t`)
		case '"', '\\':
			w.put(`\`, string(b))
		default:
			w.WriteByte(b)
		}
	}
	w.put(`"`)
}
