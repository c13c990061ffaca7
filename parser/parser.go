// Package parser makes a tree of a program's text.
package parser

import (
	"glean/tokens"
	"glean/tree"
)

// A parser has read all tokens ahead of the one that it looks at. It goes on
// by that one alone, so that it gives up at the first token with which no
// program can go on.
type parser struct {
	reader tokens.Reader
	now    tokens.Token
	// In the list of a print, outside brackets, a > does not compare.
	greaterEnds bool
}

// A noProgram is thrown where the text is no program: the place of the token
// with which it cannot go on.
type noProgram int

// Read makes a tree of a text; false, if the text is no program, and the
// place from which on it is none.
func Read(text string) (program tree.Program, place int, ok bool) {
	defer func() {
		switch why := recover().(type) {
		case nil:
		case noProgram:
			program, place, ok = tree.Program{}, int(why), false
		default:
			panic(why)
		}
	}()
	p := parser{reader: tokens.NewReader(text)}
	p.goOn()
	return p.program(), 0, true
}

func (p *parser) giveUp() { panic(noProgram(p.now.At)) }

func (p *parser) goOn() { p.now = p.reader.Next() }

// sees tells whether the parser looks at that word or sign.
func (p *parser) sees(text string) bool {
	isFixed := p.now.Kind == tokens.Word || p.now.Kind == tokens.Sign
	return isFixed && p.now.Text == text
}

// seesOneOf tells whether the parser looks at one of these words or signs.
func (p *parser) seesOneOf(texts ...string) bool {
	for _, text := range texts {
		if p.sees(text) {
			return true
		}
	}
	return false
}

// passes goes past that word or sign, if it is there, and tells whether it
// was.
func (p *parser) passes(text string) bool {
	there := p.sees(text)
	if there {
		p.goOn()
	}
	return there
}

// need goes past that word or sign, which has to be there.
func (p *parser) need(text string) {
	if !p.passes(text) {
		p.giveUp()
	}
}

// take goes past the token and answers its name.
func (p *parser) take() tree.Name {
	name := tree.Name{Text: p.now.Text, At: p.now.At}
	p.goOn()
	return name
}

// name takes a name that has no ( right behind it.
func (p *parser) name() tree.Name {
	if p.now.Kind != tokens.Name {
		p.giveUp()
	}
	return p.take()
}

func (p *parser) program() tree.Program {
	var program tree.Program
	for p.now.Kind != tokens.End {
		if p.passes("function") {
			program.Functions = append(program.Functions, p.function())
		} else {
			program.Rules = append(program.Rules, p.rule())
		}
	}
	return program
}

// function reads the rest of a function, behind that word.
func (p *parser) function() tree.Function {
	if p.now.Kind != tokens.Name && p.now.Kind != tokens.CallName {
		p.giveUp()
	}
	name := p.take()
	p.need("(")
	params := p.params()
	p.need(")")
	return tree.Function{Name: name, Params: params, Body: p.block()}
}

func (p *parser) params() []tree.Param {
	if p.sees(")") {
		return nil
	}
	params := []tree.Param{p.param()}
	for p.passes(",") {
		params = append(params, p.param())
	}
	return params
}

func (p *parser) param() tree.Param {
	param := tree.Param{Name: p.name(), IsArray: p.passes("[")}
	if param.IsArray {
		p.need("]")
	}
	return param
}

func (p *parser) rule() tree.Rule {
	switch {
	case p.passes("BEGIN"):
		return tree.Rule{Kind: tree.AtBegin, Body: p.block()}
	case p.passes("END"):
		return tree.Rule{Kind: tree.AtEnd, Body: p.block()}
	case p.sees("{"):
		return tree.Rule{Body: p.block()}
	}
	conditions := []tree.Expr{p.expr()}
	if p.passes(",") {
		conditions = append(conditions, p.expr())
	}
	if p.passes(";") {
		return tree.Rule{Conditions: conditions, Body: tree.Block{tree.Print{}}}
	}
	return tree.Rule{Conditions: conditions, Body: p.block()}
}
