package run

import (
	"strings"

	"glean/machine"
	"glean/tree"
	"glean/value"
)

// A flow tells how to go on behind a statement.
type flow int

const (
	goOn flow = iota
	toNext
	toBreak
	toContinue
	toReturn
)

func (k *maker) block(b tree.Block) statement {
	list := make([]statement, len(b))
	for i, s := range b {
		list[i] = k.statement(s)
	}
	return statement{do: func(m *machine.Machine) flow {
		for _, s := range list {
			if how := s.do(m); how != goOn {
				return how
			}
		}
		return goOn
	}}
}

// statement makes a statement ready; to begin one is a step, but for blocks
// and lone semicolons.
func (k *maker) statement(s tree.Statement) statement {
	switch s := s.(type) {
	case tree.Block:
		return k.block(s)
	case tree.Empty:
		return k.block(nil)
	}
	made := k.counted(s)
	return statement{do: func(m *machine.Machine) flow {
		m.Step()
		return made.do(m)
	}}
}

// counted makes a statement ready that is none of the two that are no step.
func (k *maker) counted(s tree.Statement) statement {
	switch s := s.(type) {
	case tree.If:
		return k.choosing(s)
	case tree.While:
		return k.loop(tree.For{Condition: s.Condition, Body: s.Body})
	case tree.For:
		return k.loop(s)
	case tree.ForIn:
		return k.keyLoop(s)
	case tree.Print:
		return k.print(s)
	case tree.Jump:
		return jump(s.Word)
	case tree.Exit:
		return k.exit(s)
	case tree.Return:
		return k.returning(s)
	case tree.Delete:
		return k.deletion(s)
	case tree.Work:
		return working(k.expr(s.Expr))
	}
	return k.block(nil)
}

// working makes a statement of an expression.
func working(e expression) statement {
	return statement{do: func(m *machine.Machine) flow {
		e.work(m)
		return goOn
	}}
}

func (k *maker) choosing(s tree.If) statement {
	condition := k.expr(s.Condition)
	then, other := k.block(s.Then), k.block(s.Else)
	return statement{do: func(m *machine.Machine) flow {
		if condition.isTrue(m) {
			return then.do(m)
		}
		return other.do(m)
	}}
}

// loop makes a for with semicolons ready; while is one with a condition
// alone.
func (k *maker) loop(s tree.For) statement {
	first := k.exprOr(s.First, value.Value{})
	condition := k.exprOr(s.Condition, value.OfTruth(true))
	step := k.exprOr(s.Step, value.Value{})
	body := k.block(s.Body)
	return statement{do: func(m *machine.Machine) flow {
		first.work(m)
		for {
			m.Step()
			if !condition.isTrue(m) {
				return goOn
			}
			if ended, how := body.turn(m); ended {
				return how
			}
			step.work(m)
		}
	}}
}

// turn does a loop's body once, and tells whether the loop has ended with it
// and how to go on then.
func (s statement) turn(m *machine.Machine) (bool, flow) {
	switch how := s.do(m); how {
	case goOn, toContinue:
		return false, goOn
	case toBreak:
		return true, goOn
	default:
		return true, how
	}
}

func (k *maker) keyLoop(s tree.ForIn) statement {
	key, array, body := k.variable(s.Key), k.array(s.Array), k.block(s.Body)
	return statement{do: func(m *machine.Machine) flow {
		for _, text := range m.Arrays.Keys(array.number(m)) {
			m.Step()
			key.find(m).store(value.OfText(text))
			if ended, how := body.turn(m); ended {
				return how
			}
		}
		return goOn
	}}
}

func (k *maker) print(s tree.Print) statement {
	list := k.exprs(s.List)
	stream := k.exprOr(s.Stream, value.Value{})
	return statement{do: func(m *machine.Machine) flow {
		texts := textsOf(m, list)
		name := stream.work(m).Text()
		line := m.Record()
		if len(list) > 0 {
			line = strings.Join(texts, m.Text(machine.OFS))
		}
		m.Put(name, line+m.Text(machine.ORS))
		return goOn
	}}
}

func jump(word string) statement {
	how := toNext
	switch word {
	case "break":
		how = toBreak
	case "continue":
		how = toContinue
	}
	return statement{do: func(*machine.Machine) flow { return how }}
}

func (k *maker) exit(s tree.Exit) statement {
	if s.Expr == nil {
		return statement{do: func(m *machine.Machine) flow {
			m.Exit()
			return goOn
		}}
	}
	code := k.expr(s.Expr)
	return statement{do: func(m *machine.Machine) flow {
		m.SetCode(code.work(m).Number())
		m.Exit()
		return goOn
	}}
}

func (k *maker) deletion(s tree.Delete) statement {
	if len(s.Keys) == 0 {
		array := k.array(s.Array)
		return statement{do: func(m *machine.Machine) flow {
			m.Arrays.Empty(array.number(m))
			return goOn
		}}
	}
	key := k.key(s.Array, s.Keys)
	return statement{do: func(m *machine.Machine) flow {
		m.Arrays.Delete(key(m))
		return goOn
	}}
}
