package writer

import "glean/tree"

func (w *writer) block(b tree.Block) {
	w.put("{ ")
	for _, s := range b {
		w.statement(s)
	}
	w.put("} ")
}

func (w *writer) statement(s tree.Statement) {
	switch s := s.(type) {
	case tree.Block:
		w.block(s)
	case tree.If:
		w.choosing(s)
	case tree.While:
		w.put("while (")
		w.expr(s.Condition)
		w.put(") ")
		w.block(s.Body)
	case tree.For:
		w.counting(s)
	case tree.ForIn:
		w.put("for (", s.Key.Text, " in ", s.Array.Text, ") ")
		w.block(s.Body)
	default:
		w.simple(s)
		w.put("; ")
	}
}

func (w *writer) choosing(s tree.If) {
	w.put("if (")
	w.expr(s.Condition)
	w.put(") ")
	w.block(s.Then)
	if s.HasElse {
		w.put("else ")
		w.block(s.Else)
	}
}

func (w *writer) counting(s tree.For) {
	w.put("for (")
	w.expr(s.First)
	w.put("; ")
	w.expr(s.Condition)
	w.put("; ")
	w.expr(s.Step)
	w.put(") ")
	w.block(s.Body)
}

// simple writes a statement that has a semicolon behind it; of a lone
// semicolon there is nothing else.
func (w *writer) simple(s tree.Statement) {
	switch s := s.(type) {
	case tree.Work:
		w.expr(s.Expr)
	case tree.Print:
		w.print(s)
	case tree.Jump:
		w.put(s.Word)
	case tree.Exit:
		w.ending("exit", s.Expr)
	case tree.Return:
		w.ending("return", s.Expr)
	case tree.Delete:
		w.put("delete ", s.Array.Text)
		if len(s.Keys) > 0 {
			w.bracketed("[", s.Keys, "]")
		}
	}
}

func (w *writer) print(s tree.Print) {
	w.put("print")
	if len(s.List) > 0 {
		w.put(" ")
		w.list(s.List)
	}
	if s.Stream != nil {
		w.put(" > ")
		w.expr(s.Stream)
	}
}

// ending writes a word, and an expression behind it if there is one.
func (w *writer) ending(word string, e tree.Expr) {
	w.put(word)
	if e != nil {
		w.put(" ")
		w.expr(e)
	}
}
