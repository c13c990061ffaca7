package run

import (
	"glean/fault"
	"glean/machine"
	"glean/tree"
	"glean/value"
)

func (k *maker) binary(b tree.Binary) expression {
	switch b.Sign {
	case "&&":
		left, right := k.expr(b.Left), k.expr(b.Right)
		return truth(func(m *machine.Machine) bool { return left.isTrue(m) && right.isTrue(m) })
	case "||":
		left, right := k.expr(b.Left), k.expr(b.Right)
		return truth(func(m *machine.Machine) bool { return left.isTrue(m) || right.isTrue(m) })
	case "~", "!~":
		return k.matched(b)
	case "<", "<=", "==", "!=", ">=", ">":
		return k.compared(b)
	}
	left, right := k.expr(b.Left), k.expr(b.Right)
	reckon := reckoningOf(b.Sign)
	return expression{work: func(m *machine.Machine) value.Value {
		first := left.work(m)
		return reckon(m, first, right.work(m))
	}}
}

func (k *maker) matched(b tree.Binary) expression {
	left, right := k.expr(b.Left), k.pattern(b.Right)
	wanted := b.Sign == "~"
	return truth(func(m *machine.Machine) bool {
		text := left.work(m).Text()
		return hasMatch(right(m), text) == wanted
	})
}

func (k *maker) compared(b tree.Binary) expression {
	left, right := k.expr(b.Left), k.expr(b.Right)
	holds := comparisonOf(b.Sign)
	return truth(func(m *machine.Machine) bool {
		first := left.work(m)
		return holds(value.Compare(first, right.work(m)))
	})
}

// comparisonOf answers what tells, of how two values compare, whether a sign
// holds.
func comparisonOf(sign string) func(order int) bool {
	switch sign {
	case "<":
		return func(order int) bool { return order < 0 }
	case "<=":
		return func(order int) bool { return order <= 0 }
	case "==":
		return func(order int) bool { return order == 0 }
	case "!=":
		return func(order int) bool { return order != 0 }
	case ">=":
		return func(order int) bool { return order >= 0 }
	}
	return func(order int) bool { return order > 0 }
}

// reckoningOf answers what reckons with the numbers of two values, by a sign.
func reckoningOf(sign string) func(m *machine.Machine, a, b value.Value) value.Value {
	switch sign {
	case "+":
		return reckoning(func(a, b int64) int64 { return a + b })
	case "-":
		return reckoning(func(a, b int64) int64 { return a - b })
	case "*":
		return reckoning(func(a, b int64) int64 { return a * b })
	case "/":
		return dividing(func(a, b int64) int64 { return a / b })
	}
	return dividing(func(a, b int64) int64 { return a % b })
}

func reckoning(of func(a, b int64) int64) func(m *machine.Machine, a, b value.Value) value.Value {
	return func(_ *machine.Machine, a, b value.Value) value.Value {
		return value.OfNumber(of(a.Number(), b.Number()))
	}
}

// dividing is as reckoning, but not by 0.
func dividing(of func(a, b int64) int64) func(m *machine.Machine, a, b value.Value) value.Value {
	reckon := reckoning(of)
	return func(m *machine.Machine, a, b value.Value) value.Value {
		if b.Number() == 0 {
			m.GiveUp(fault.ErrZero)
		}
		return reckon(m, a, b)
	}
}
