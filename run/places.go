package run

import (
	"strings"

	"glean/arrays"
	"glean/machine"
	"glean/tree"
	"glean/value"
)

// foundBy makes an expression of what finds a place.
func foundBy(find func(m *machine.Machine) place) expression {
	return expression{
		work: func(m *machine.Machine) value.Value { return find(m).take() },
		find: find,
	}
}

func (k *maker) variable(name tree.Name) expression {
	if param := k.paramOf(name); param >= 0 {
		return parameter(param)
	}
	number := numberOf(k.variables, name)
	return foundBy(func(m *machine.Machine) place {
		return place{
			take:  func() value.Value { return m.Variable(number) },
			store: func(v value.Value) { m.SetVariable(number, v) },
		}
	})
}

func parameter(number int) expression {
	return foundBy(func(m *machine.Machine) place {
		values := m.Call().Values
		return place{
			take:  func() value.Value { return values[number] },
			store: func(v value.Value) { values[number] = v },
		}
	})
}

func (k *maker) element(e tree.Element) expression {
	key := k.key(e.Array, e.Keys)
	return foundBy(func(m *machine.Machine) place {
		found := key(m)
		return place{
			take:  func() value.Value { return m.Arrays.Take(found) },
			store: func(v value.Value) { m.Arrays.Store(found, v) },
		}
	})
}

// key answers what works out the key of an element.
func (k *maker) key(name tree.Name, subscripts []tree.Expr) func(m *machine.Machine) arrays.Key {
	array := k.array(name)
	list := k.exprs(subscripts)
	return func(m *machine.Machine) arrays.Key {
		text := m.Bounded(strings.Join(textsOf(m, list), ","))
		return arrays.Key{Array: array.number(m), Text: text}
	}
}

func (k *maker) field(f tree.Field) expression {
	which := k.expr(f.Number)
	return foundBy(func(m *machine.Machine) place {
		number := m.FieldNumber(which.work(m))
		return place{
			take:  func() value.Value { return m.Field(number) },
			store: func(v value.Value) { m.SetField(number, v) },
		}
	})
}

func (k *maker) store(s tree.Store) expression {
	to, right := k.expr(s.Place), k.expr(s.Right)
	if s.Sign == "=" {
		return expression{work: func(m *machine.Machine) value.Value {
			found := to.find(m)
			v := right.work(m)
			found.store(v)
			return v
		}}
	}
	reckon := reckoningOf(strings.TrimSuffix(s.Sign, "="))
	return expression{work: func(m *machine.Machine) value.Value {
		found := to.find(m)
		by := right.work(m)
		v := reckon(m, found.take(), by)
		found.store(v)
		return v
	}}
}
