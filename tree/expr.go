package tree

// An Expr is one of the types below that have its method, or a Name, which
// as an expression is a variable or, as an argument, an array.
type Expr interface{ isExpr() }

type Number struct{ Number int64 }

type String struct{ Text string }

// A Pattern has the text that stands between the slashes.
type Pattern struct{ Text string }

type Element struct {
	Array Name
	Keys  []Expr
}

type Field struct{ Number Expr }

// A Call is one of a function of the program.
type Call struct {
	Name Name
	Args []Expr
}

// An OwnCall is one of an own call of the language.
type OwnCall struct {
	Name Name
	Args []Expr
}

// A Unary has a sign ahead of an expression.
type Unary struct {
	Sign string
	Expr Expr
}

// A Binary has a sign between two expressions.
type Binary struct {
	Left  Expr
	Sign  string
	Right Expr
}

// A Joined is one text behind the other.
type Joined struct{ Left, Right Expr }

type In struct {
	Key   Expr
	Array Name
}

type Choice struct{ Condition, Yes, No Expr }

// A Store is =, += and so on; what stands on its left is a place.
type Store struct {
	Place Expr
	Sign  string
	Right Expr
}

func (Name) isExpr()    {}
func (Number) isExpr()  {}
func (String) isExpr()  {}
func (Pattern) isExpr() {}
func (Element) isExpr() {}
func (Field) isExpr()   {}
func (Call) isExpr()    {}
func (OwnCall) isExpr() {}
func (Unary) isExpr()   {}
func (Binary) isExpr()  {}
func (Joined) isExpr()  {}
func (In) isExpr()      {}
func (Choice) isExpr()  {}
func (Store) isExpr()   {}

// IsPlace tells whether an expression can be stored to.
func IsPlace(e Expr) bool {
	switch e.(type) {
	case Name, Element, Field:
		return true
	}
	return false
}
