// Package fault holds the reasons for which a text is not made or a run ends
// early.
package fault

import "errors"

var (
	ErrFuel   = errors.New("the steps are spent")
	ErrZero   = errors.New("a division by 0")
	ErrField  = errors.New("a field that there cannot be")
	ErrRegex  = errors.New("no pattern")
	ErrText   = errors.New("a text that has grown too long")
	ErrDeep   = errors.New("too many calls within calls")
	ErrFormat = errors.New("a % with which no item begins")
	ErrOut    = errors.New("too much put out")
)
