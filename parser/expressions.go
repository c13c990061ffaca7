package parser

import (
	"strconv"

	"glean/tokens"
	"glean/tree"
)

func (p *parser) list() []tree.Expr {
	list := []tree.Expr{p.expr()}
	for p.passes(",") {
		list = append(list, p.expr())
	}
	return list
}

// listUpTo reads the rest of a list in brackets, and the closing one.
func (p *parser) listUpTo(closing string) []tree.Expr {
	outside := p.greaterEnds
	p.greaterEnds = false
	list := p.list()
	p.greaterEnds = outside
	p.need(closing)
	return list
}

// inBrackets reads the rest of an expression in brackets, and the closing
// one.
func (p *parser) inBrackets() tree.Expr {
	outside := p.greaterEnds
	p.greaterEnds = false
	e := p.expr()
	p.greaterEnds = outside
	p.need(")")
	return e
}

func (p *parser) expr() tree.Expr {
	left := p.either()
	switch {
	case p.passes("?"):
		yes := p.expr()
		p.need(":")
		return tree.Choice{Condition: left, Yes: yes, No: p.expr()}
	case tree.IsPlace(left) && p.seesOneOf("=", "+=", "-=", "*=", "/=", "%="):
		sign := p.take().Text
		return tree.Store{Place: left, Sign: sign, Right: p.expr()}
	}
	return left
}

func (p *parser) either() tree.Expr { return p.row(p.both, "||") }

func (p *parser) both() tree.Expr { return p.row(p.matched, "&&") }

func (p *parser) sum() tree.Expr { return p.row(p.product, "+", "-") }

func (p *parser) product() tree.Expr { return p.row(p.unary, "*", "/", "%") }

// row reads parts with one of the signs between each two; the first ones
// belong closest together.
func (p *parser) row(part func() tree.Expr, signs ...string) tree.Expr {
	e := part()
	for p.seesOneOf(signs...) {
		sign := p.take().Text
		e = tree.Binary{Left: e, Sign: sign, Right: part()}
	}
	return e
}

// pair reads a part, and a second one if one of the signs is between them.
func (p *parser) pair(part func() tree.Expr, signs ...string) tree.Expr {
	e := part()
	if p.seesOneOf(signs...) {
		sign := p.take().Text
		e = tree.Binary{Left: e, Sign: sign, Right: part()}
	}
	return e
}

func (p *parser) matched() tree.Expr {
	e := p.pair(p.compared, "~", "!~")
	for p.passes("in") {
		e = tree.In{Key: e, Array: p.name()}
	}
	return e
}

func (p *parser) compared() tree.Expr {
	if p.greaterEnds {
		return p.pair(p.joined, "<", "<=", "==", "!=", ">=")
	}
	return p.pair(p.joined, "<", "<=", "==", "!=", ">=", ">")
}

func (p *parser) joined() tree.Expr {
	e := p.sum()
	for p.joinsOn() {
		e = tree.Joined{Left: e, Right: p.sum()}
	}
	return e
}

// joinsOn tells whether what follows is joined to what was read. A pattern
// or a sign ahead of a number is not: there they mean something else.
func (p *parser) joinsOn() bool {
	switch p.now.Kind {
	case tokens.Number, tokens.String, tokens.Name, tokens.CallName, tokens.Own:
		return true
	}
	return p.seesOneOf("$", "(")
}

func (p *parser) unary() tree.Expr {
	if p.seesOneOf("!", "-", "+") {
		sign := p.take().Text
		return tree.Unary{Sign: sign, Expr: p.unary()}
	}
	return p.primary()
}

func (p *parser) primary() tree.Expr {
	switch p.now.Kind {
	case tokens.Number:
		// A number token has no more digits than fit.
		number, _ := strconv.ParseInt(p.take().Text, 10, 64)
		return tree.Number{Number: number}
	case tokens.String:
		return tree.String{Text: p.take().Text}
	case tokens.Pattern:
		return tree.Pattern{Text: p.take().Text}
	case tokens.Name:
		return p.variableOrElement()
	case tokens.CallName:
		return tree.Call{Name: p.take(), Args: p.args()}
	case tokens.Own:
		return tree.OwnCall{Name: p.take(), Args: p.args()}
	}
	if p.passes("$") {
		return tree.Field{Number: p.primary()}
	}
	p.need("(")
	return p.inBrackets()
}

func (p *parser) variableOrElement() tree.Expr {
	name := p.take()
	if p.passes("[") {
		return tree.Element{Array: name, Keys: p.listUpTo("]")}
	}
	return name
}

// args reads a call's arguments in their brackets.
func (p *parser) args() []tree.Expr {
	p.need("(")
	if p.passes(")") {
		return nil
	}
	return p.listUpTo(")")
}
