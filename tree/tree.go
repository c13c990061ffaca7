// Package tree holds a program as its text spells it, without the brackets
// that are there for reading alone.
package tree

// A Program is its functions and its rules, each in their order.
type Program struct {
	Functions []Function
	Rules     []Rule
}

type Function struct {
	Name   Name
	Params []Param
	Body   Block
}

// A Param is a parameter: a variable or an array.
type Param struct {
	Name    Name
	IsArray bool
}

// A RuleKind says when a rule is run.
type RuleKind int

const (
	ForRecords RuleKind = iota
	AtBegin
	AtEnd
)

// A Rule has at most two conditions, and only if it is one for records.
type Rule struct {
	Kind       RuleKind
	Conditions []Expr
	Body       Block
}

// A Name is a name and the place at which it stands.
type Name struct {
	Text string
	At   int
}
