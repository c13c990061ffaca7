package usage

import (
	"glean/limit"
	"glean/tree"
)

func (c *checker) exprs(list []tree.Expr) {
	for _, e := range list {
		c.expr(e)
	}
}

// expr goes through an expression; one that is missing is nil.
func (c *checker) expr(e tree.Expr) {
	switch e := e.(type) {
	case tree.Name:
		c.name(e, variable)
	case tree.Element:
		c.name(e.Array, array)
		c.exprs(e.Keys)
	case tree.Field:
		c.expr(e.Number)
	case tree.Call:
		c.call(e)
	case tree.OwnCall:
		c.ownCall(e)
	case tree.Unary:
		c.expr(e.Expr)
	case tree.Binary:
		c.expr(e.Left)
		c.expr(e.Right)
	case tree.Joined:
		c.expr(e.Left)
		c.expr(e.Right)
	case tree.In:
		c.expr(e.Key)
		c.name(e.Array, array)
	case tree.Choice:
		c.exprs([]tree.Expr{e.Condition, e.Yes, e.No})
	case tree.Store:
		c.expr(e.Place)
		c.expr(e.Right)
	}
}

func (c *checker) call(call tree.Call) {
	f, ok := c.functions[call.Name.Text]
	if !ok || len(call.Args) > len(f.Params) {
		c.isWrong(call.Name.At)
	}
	for i, arg := range call.Args {
		isArray := i < len(f.Params) && f.Params[i].IsArray
		c.arg(call.Name, arg, isArray)
	}
}

func (c *checker) ownCall(call tree.OwnCall) {
	least, most := argCounts(call.Name.Text)
	if len(call.Args) < least || len(call.Args) > most {
		c.isWrong(call.Name.At)
	}
	if isReplacing(call.Name.Text) && len(call.Args) > 2 && !tree.IsPlace(call.Args[2]) {
		c.isWrong(call.Name.At)
	}
	for i, arg := range call.Args {
		isArray := call.Name.Text == "split" && i == 1
		c.arg(call.Name, arg, isArray)
	}
}

// arg goes through an argument of the call of that name.
func (c *checker) arg(call tree.Name, arg tree.Expr, isArray bool) {
	if !isArray {
		c.expr(arg)
		return
	}
	name, ok := arg.(tree.Name)
	if !ok {
		// What is wrong within the argument has a greater place.
		c.isWrong(call.At)
		return
	}
	c.name(name, array)
}

// argCounts answers how few and how many arguments an own call may have.
func argCounts(own string) (int, int) {
	switch own {
	case "length", "toupper", "tolower":
		return 1, 1
	case "index", "match":
		return 2, 2
	case "sprintf":
		return 1, 1 + limit.MaxArgs
	}
	return 2, 3
}

func isReplacing(own string) bool { return own == "sub" || own == "gsub" }
