package tree

// A Statement is one of the types below that have its method.
type Statement interface{ isStatement() }

// A Block is also what belongs to if, else, while, for: a statement there
// that is no block is held as a block of it alone.
type Block []Statement

// An Empty is a lone semicolon.
type Empty struct{}

type If struct {
	Condition Expr
	Then      Block
	HasElse   bool
	Else      Block
}

type While struct {
	Condition Expr
	Body      Block
}

// A For is one with semicolons; what is missing in it is nil.
type For struct {
	First, Condition, Step Expr
	Body                   Block
}

type ForIn struct {
	Key, Array Name
	Body       Block
}

// A Work is an expression that stands as a statement.
type Work struct{ Expr Expr }

// A Print may have no list, and no stream (nil).
type Print struct {
	List   []Expr
	Stream Expr
}

// A Jump is next, break or continue, and the place of that word.
type Jump struct {
	Word string
	At   int
}

// An Exit may have no expression (nil).
type Exit struct{ Expr Expr }

// A Return may have no expression (nil).
type Return struct {
	Expr Expr
	At   int
}

// A Delete without keys is one of the whole array.
type Delete struct {
	Array Name
	Keys  []Expr
}

func (Block) isStatement()  {}
func (Empty) isStatement()  {}
func (If) isStatement()     {}
func (While) isStatement()  {}
func (For) isStatement()    {}
func (ForIn) isStatement()  {}
func (Work) isStatement()   {}
func (Print) isStatement()  {}
func (Jump) isStatement()   {}
func (Exit) isStatement()   {}
func (Return) isStatement() {}
func (Delete) isStatement() {}
