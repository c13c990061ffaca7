package run

import (
	"slices"

	"glean/machine"
	"glean/tree"
	"glean/value"
)

// A program that is made ready is not walked as a tree any more: what it is
// made of are structs whose functions do the work.
type program struct {
	begin     []statement
	rules     []rule
	end       []statement
	variables int // how many there are
	arrays    int
}

// An expression has a function that works it out and, if it is a place, one
// that finds it.
type expression struct {
	work func(m *machine.Machine) value.Value
	find func(m *machine.Machine) place
}

// A place that was found can be taken from and stored to.
type place struct {
	take  func() value.Value
	store func(v value.Value)
}

// A statement has a function that does it and tells how to go on.
type statement struct {
	do func(m *machine.Machine) flow
}

// An array has a function that tells its number, which for a parameter hangs
// on the call.
type array struct {
	number func(m *machine.Machine) int
}

// A function of the program; its body is made ready behind all heads, as a
// call may stand ahead of it.
type function struct {
	params []tree.Param
	body   statement
}

// A maker makes a program ready, and numbers its names.
type maker struct {
	variables map[string]int
	arrays    map[string]int
	functions map[string]int
	ready     []function   // by their numbers
	params    []tree.Param // of the function that is made ready
}

func makeReady(read tree.Program) *program {
	k := maker{
		variables: firstVariables(),
		arrays:    make(map[string]int),
		functions: make(map[string]int),
		ready:     make([]function, len(read.Functions)),
	}
	for i, f := range read.Functions {
		k.functions[f.Name.Text] = i
		k.ready[i].params = f.Params
	}
	for i, f := range read.Functions {
		k.params = f.Params
		k.ready[i].body = k.block(f.Body)
	}
	k.params = nil
	p := &program{}
	for _, r := range read.Rules {
		k.rule(p, r)
	}
	p.variables, p.arrays = len(k.variables), len(k.arrays)
	return p
}

// firstVariables answers the numbers of the variables that are there from
// the beginning.
func firstVariables() map[string]int {
	return map[string]int{
		"NR":      machine.NR,
		"NF":      machine.NF,
		"FS":      machine.FS,
		"OFS":     machine.OFS,
		"ORS":     machine.ORS,
		"RSTART":  machine.RSTART,
		"RLENGTH": machine.RLENGTH,
	}
}

// rule puts a rule to the program.
func (k *maker) rule(p *program, r tree.Rule) {
	switch r.Kind {
	case tree.AtBegin:
		p.begin = append(p.begin, k.block(r.Body))
	case tree.AtEnd:
		p.end = append(p.end, k.block(r.Body))
	default:
		p.rules = append(p.rules, rule{conditions: k.exprs(r.Conditions), body: k.block(r.Body)})
	}
}

// numberOf answers the number of a name; a new one gets the next number.
func numberOf(numbers map[string]int, name tree.Name) int {
	number, ok := numbers[name.Text]
	if !ok {
		number = len(numbers)
		numbers[name.Text] = number
	}
	return number
}

// paramOf answers the number of the parameter of that name, or -1.
func (k *maker) paramOf(name tree.Name) int {
	return slices.IndexFunc(k.params, func(p tree.Param) bool { return p.Name.Text == name.Text })
}

// array makes the name of an array ready.
func (k *maker) array(name tree.Name) array {
	if param := k.paramOf(name); param >= 0 {
		return array{number: func(m *machine.Machine) int { return m.Call().Arrays[param] }}
	}
	number := numberOf(k.arrays, name)
	return array{number: func(*machine.Machine) int { return number }}
}
