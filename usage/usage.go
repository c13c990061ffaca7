// Package usage finds what a program uses wrongly.
package usage

import (
	"cmp"
	"slices"

	"glean/tree"
)

// A kind is what a name stands for.
type kind int

const (
	variable kind = iota
	array
)

// A use is a name at its place and the kind that is asked for there.
type use struct {
	name  tree.Name
	asked kind
}

// A checker goes through a program and gathers what it finds.
type checker struct {
	functions map[string]tree.Function
	params    []tree.Param // of the function that it is in
	uses      []use        // of the names of the whole program
	wrong     []int        // the places of what is used wrongly

	loops      int  // the loops that it is in
	inFunction bool // whether return may stand
	onRecords  bool // whether next may stand
}

// LeastWrong answers the least place of what is used wrongly; false, if
// there is nothing of the kind.
func LeastWrong(program tree.Program) (int, bool) {
	c := checker{functions: make(map[string]tree.Function)}
	// A function may be called ahead of its place in the text.
	for _, f := range program.Functions {
		c.enter(f)
	}
	for _, f := range program.Functions {
		c.function(f)
	}
	for _, r := range program.Rules {
		c.rule(r)
	}
	c.judge()
	if len(c.wrong) == 0 {
		return 0, false
	}
	return slices.Min(c.wrong), true
}

func (c *checker) isWrong(at int) { c.wrong = append(c.wrong, at) }

// isThereFromBeginning tells whether a name is one of the variables that
// every program has.
func isThereFromBeginning(name string) bool {
	switch name {
	case "NR", "NF", "FS", "OFS", "ORS", "RSTART", "RLENGTH":
		return true
	}
	return false
}

func (c *checker) isFunction(name string) bool {
	_, ok := c.functions[name]
	return ok
}

// enter makes a function known by its name; the first one of that name stays.
func (c *checker) enter(f tree.Function) {
	known := c.isFunction(f.Name.Text)
	if known || isThereFromBeginning(f.Name.Text) {
		c.isWrong(f.Name.At)
	}
	if !known {
		c.functions[f.Name.Text] = f
	}
}

func (c *checker) function(f tree.Function) {
	for i, p := range f.Params {
		name := p.Name.Text
		_, twice := paramOf(f.Params[:i], name)
		if twice || c.isFunction(name) || isThereFromBeginning(name) {
			c.isWrong(p.Name.At)
		}
	}
	c.params, c.inFunction = f.Params, true
	c.block(f.Body)
	c.params, c.inFunction = nil, false
}

func paramOf(params []tree.Param, name string) (tree.Param, bool) {
	for _, p := range params {
		if p.Name.Text == name {
			return p, true
		}
	}
	return tree.Param{}, false
}

func (c *checker) rule(r tree.Rule) {
	c.exprs(r.Conditions)
	c.onRecords = r.Kind == tree.ForRecords
	c.block(r.Body)
	c.onRecords = false
}

// name notes a use of a name as that kind.
func (c *checker) name(name tree.Name, asked kind) {
	if param, ok := paramOf(c.params, name.Text); ok {
		if kindOf(param) != asked {
			c.isWrong(name.At)
		}
		return
	}
	if c.isFunction(name.Text) {
		c.isWrong(name.At)
		return
	}
	c.uses = append(c.uses, use{name, asked})
}

func kindOf(p tree.Param) kind {
	if p.IsArray {
		return array
	}
	return variable
}

// judge holds each use of a name of the whole program against the first one
// in the text.
func (c *checker) judge() {
	slices.SortFunc(c.uses, func(a, b use) int { return cmp.Compare(a.name.At, b.name.At) })
	first := make(map[string]kind)
	for _, u := range c.uses {
		name := u.name.Text
		known, seen := first[name]
		switch {
		case isThereFromBeginning(name):
			known = variable
		case !seen:
			first[name], known = u.asked, u.asked
		}
		if known != u.asked {
			c.isWrong(u.name.At)
		}
	}
}
