package run

import (
	"glean/machine"
	"glean/tree"
	"glean/value"
)

// An argument puts what a parameter is to stand for into a call.
type argument struct {
	put func(m *machine.Machine, to *machine.Call)
}

func (k *maker) call(c tree.Call) expression {
	f := &k.ready[k.functions[c.Name.Text]]
	args := make([]argument, len(c.Args))
	for i, e := range c.Args {
		args[i] = k.argument(i, e, f.params[i].IsArray)
	}
	return expression{work: func(m *machine.Machine) value.Value {
		call := &machine.Call{Values: make([]value.Value, len(f.params)), Arrays: make([]int, len(f.params))}
		for _, arg := range args {
			arg.put(m, call)
		}
		m.Begin(call)
		f.addArrays(m, call, len(args))
		f.body.do(m)
		m.End()
		return call.Answer
	}}
}

func (k *maker) argument(number int, e tree.Expr, isArray bool) argument {
	if name, ok := e.(tree.Name); ok && isArray {
		array := k.array(name)
		return argument{put: func(m *machine.Machine, to *machine.Call) { to.Arrays[number] = array.number(m) }}
	}
	given := k.expr(e)
	return argument{put: func(m *machine.Machine, to *machine.Call) { to.Values[number] = given.work(m) }}
}

// addArrays makes new arrays for the parameters from a number on.
func (f *function) addArrays(m *machine.Machine, call *machine.Call, from int) {
	for i := from; i < len(f.params); i++ {
		if f.params[i].IsArray {
			call.Arrays[i] = m.Arrays.Add()
		}
	}
}

func (k *maker) returning(s tree.Return) statement {
	answer := k.exprOr(s.Expr, value.Value{})
	return statement{do: func(m *machine.Machine) flow {
		v := answer.work(m)
		m.Call().Answer = v
		return toReturn
	}}
}
