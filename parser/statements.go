package parser

import (
	"glean/tokens"
	"glean/tree"
)

func (p *parser) block() tree.Block {
	p.need("{")
	var block tree.Block
	for !p.passes("}") {
		block = append(block, p.statement())
	}
	return block
}

func (p *parser) statement() tree.Statement {
	switch {
	case p.sees("{"):
		return p.block()
	case p.passes(";"):
		return tree.Empty{}
	case p.passes("if"):
		return p.choosing()
	case p.passes("while"):
		return tree.While{Condition: p.condition(), Body: p.body()}
	case p.passes("for"):
		return p.counting()
	}
	simple := p.simple()
	if !p.sees("}") {
		p.need(";")
	}
	return simple
}

// body reads the statement that belongs to if, else, while or for.
func (p *parser) body() tree.Block {
	if p.sees("{") {
		return p.block()
	}
	return tree.Block{p.statement()}
}

// condition reads an expression in brackets.
func (p *parser) condition() tree.Expr {
	p.need("(")
	condition := p.expr()
	p.need(")")
	return condition
}

// choosing reads the rest of an if.
func (p *parser) choosing() tree.Statement {
	s := tree.If{Condition: p.condition(), Then: p.body()}
	if p.passes("else") {
		s.HasElse = true
		s.Else = p.body()
	}
	return s
}

// counting reads the rest of a for. Which of the two it is shows only behind
// the array's name, as its beginning may be an expression too.
func (p *parser) counting() tree.Statement {
	p.need("(")
	begin := p.now
	first := p.exprAheadOf(";")
	if key, array, ok := keyAndArray(begin, first); ok && p.passes(")") {
		return tree.ForIn{Key: key, Array: array, Body: p.body()}
	}
	p.need(";")
	condition := p.exprAheadOf(";")
	p.need(";")
	step := p.exprAheadOf(")")
	p.need(")")
	return tree.For{First: first, Condition: condition, Step: step, Body: p.body()}
}

// keyAndArray answers the two names, if the expression, whose first token is
// begin, is just NAME in NAME; brackets around it or its key make it another
// one.
func keyAndArray(begin tokens.Token, e tree.Expr) (tree.Name, tree.Name, bool) {
	in, ok := e.(tree.In)
	if !ok {
		return tree.Name{}, tree.Name{}, false
	}
	key, ok := in.Key.(tree.Name)
	return key, in.Array, ok && key.At == begin.At
}

// exprAheadOf reads an expression; nil, if that sign is there at once.
func (p *parser) exprAheadOf(sign string) tree.Expr {
	if p.sees(sign) {
		return nil
	}
	return p.expr()
}

// simple reads a statement that needs a ; or a } behind it.
func (p *parser) simple() tree.Statement {
	at := p.now.At
	switch {
	case p.passes("print"):
		return p.print()
	case p.seesOneOf("next", "break", "continue"):
		word := p.take()
		return tree.Jump{Word: word.Text, At: at}
	case p.passes("exit"):
		return tree.Exit{Expr: p.lastExpr()}
	case p.passes("return"):
		return tree.Return{Expr: p.lastExpr(), At: at}
	case p.passes("delete"):
		return p.deletion()
	}
	return tree.Work{Expr: p.expr()}
}

// ends tells whether a simple statement may end here.
func (p *parser) ends() bool { return p.seesOneOf(";", "}") }

// lastExpr reads the expression with which a statement ends; nil, if there
// is none.
func (p *parser) lastExpr() tree.Expr {
	if p.ends() {
		return nil
	}
	return p.expr()
}

// print reads the rest of a print.
func (p *parser) print() tree.Statement {
	var s tree.Print
	if !p.ends() && !p.sees(">") {
		p.greaterEnds = true
		s.List = p.list()
		p.greaterEnds = false
	}
	if p.passes(">") {
		s.Stream = p.joined()
	}
	return s
}

// deletion reads the rest of a delete.
func (p *parser) deletion() tree.Statement {
	s := tree.Delete{Array: p.name()}
	if p.passes("[") {
		s.Keys = p.listUpTo("]")
	}
	return s
}
