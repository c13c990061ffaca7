package usage

import "glean/tree"

func (c *checker) block(b tree.Block) {
	for _, s := range b {
		c.statement(s)
	}
}

func (c *checker) statement(s tree.Statement) {
	switch s := s.(type) {
	case tree.Block:
		c.block(s)
	case tree.If:
		c.expr(s.Condition)
		c.block(s.Then)
		c.block(s.Else)
	case tree.While:
		c.expr(s.Condition)
		c.loop(s.Body)
	case tree.For:
		c.exprs([]tree.Expr{s.First, s.Condition, s.Step})
		c.loop(s.Body)
	case tree.ForIn:
		c.name(s.Key, variable)
		c.name(s.Array, array)
		c.loop(s.Body)
	case tree.Work:
		c.expr(s.Expr)
	case tree.Print:
		c.exprs(s.List)
		c.expr(s.Stream)
	case tree.Jump:
		if !c.mayJump(s.Word) {
			c.isWrong(s.At)
		}
	case tree.Exit:
		c.expr(s.Expr)
	case tree.Return:
		if !c.inFunction {
			c.isWrong(s.At)
		}
		c.expr(s.Expr)
	case tree.Delete:
		c.name(s.Array, array)
		c.exprs(s.Keys)
	}
}

// loop goes through what a loop does again and again.
func (c *checker) loop(body tree.Block) {
	c.loops++
	c.block(body)
	c.loops--
}

// mayJump tells whether next, break or continue may stand here.
func (c *checker) mayJump(word string) bool {
	if word == "next" {
		return c.onRecords
	}
	return c.loops > 0
}
