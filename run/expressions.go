package run

import (
	"glean/fault"
	"glean/machine"
	"glean/patterns"
	"glean/tree"
	"glean/value"
)

// isTrue works an expression out for its truth.
func (e expression) isTrue(m *machine.Machine) bool { return e.work(m).IsTrue() }

// textsOf works a list out for its texts.
func textsOf(m *machine.Machine, list []expression) []string {
	texts := make([]string, len(list))
	for i, e := range list {
		texts[i] = e.work(m).Text()
	}
	return texts
}

func constant(v value.Value) expression {
	return expression{work: func(*machine.Machine) value.Value { return v }}
}

// truth makes an expression that is 1 or 0.
func truth(is func(m *machine.Machine) bool) expression {
	return expression{work: func(m *machine.Machine) value.Value { return value.OfTruth(is(m)) }}
}

func (k *maker) exprs(list []tree.Expr) []expression {
	made := make([]expression, len(list))
	for i, e := range list {
		made[i] = k.expr(e)
	}
	return made
}

// exprOr makes an expression ready; one that is missing is that value.
func (k *maker) exprOr(e tree.Expr, missing value.Value) expression {
	if e == nil {
		return constant(missing)
	}
	return k.expr(e)
}

func (k *maker) expr(e tree.Expr) expression {
	switch e := e.(type) {
	case tree.Number:
		return constant(value.OfNumber(e.Number))
	case tree.String:
		return constant(value.OfText(e.Text))
	case tree.Pattern:
		return k.bare(e)
	case tree.Name:
		return k.variable(e)
	case tree.Element:
		return k.element(e)
	case tree.Field:
		return k.field(e)
	case tree.Call:
		return k.call(e)
	case tree.OwnCall:
		return k.ownCall(e)
	case tree.Unary:
		return k.unary(e)
	case tree.Binary:
		return k.binary(e)
	case tree.Joined:
		return k.joined(e)
	case tree.In:
		return k.in(e)
	case tree.Choice:
		return k.choice(e)
	case tree.Store:
		return k.store(e)
	}
	return constant(value.Value{})
}

// bare makes a pattern ready that asks for a match in the record.
func (k *maker) bare(e tree.Pattern) expression {
	p := k.pattern(e)
	return truth(func(m *machine.Machine) bool { return hasMatch(p(m), m.Record()) })
}

func hasMatch(p patterns.Pattern, text string) bool {
	at, _ := p.Find(text)
	return at >= 0
}

// pattern makes an expression ready where a pattern is asked for: a bare one
// is the pattern itself, any other is one by its text.
func (k *maker) pattern(e tree.Expr) func(m *machine.Machine) patterns.Pattern {
	if bare, ok := e.(tree.Pattern); ok {
		// No other text than a pattern's becomes a token of that kind.
		p, _ := patterns.Read(bare.Text)
		return func(*machine.Machine) patterns.Pattern { return p }
	}
	text := k.expr(e)
	return func(m *machine.Machine) patterns.Pattern {
		p, ok := patterns.Read(text.work(m).Text())
		if !ok {
			m.GiveUp(fault.ErrRegex)
		}
		return p
	}
}

func (k *maker) unary(u tree.Unary) expression {
	of := k.expr(u.Expr)
	switch u.Sign {
	case "!":
		return truth(func(m *machine.Machine) bool { return !of.isTrue(m) })
	case "-":
		return expression{work: func(m *machine.Machine) value.Value { return value.OfNumber(-of.work(m).Number()) }}
	}
	return expression{work: func(m *machine.Machine) value.Value { return value.OfNumber(of.work(m).Number()) }}
}

func (k *maker) joined(j tree.Joined) expression {
	left, right := k.expr(j.Left), k.expr(j.Right)
	return expression{work: func(m *machine.Machine) value.Value {
		first := left.work(m).Text()
		return value.OfText(m.Bounded(first + right.work(m).Text()))
	}}
}

func (k *maker) in(i tree.In) expression {
	key := k.key(i.Array, []tree.Expr{i.Key})
	return truth(func(m *machine.Machine) bool { return m.Arrays.Has(key(m)) })
}

func (k *maker) choice(c tree.Choice) expression {
	condition, yes, no := k.expr(c.Condition), k.expr(c.Yes), k.expr(c.No)
	return expression{work: func(m *machine.Machine) value.Value {
		if condition.isTrue(m) {
			return yes.work(m)
		}
		return no.work(m)
	}}
}
