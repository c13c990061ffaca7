// Package limit holds the bounds that several packages keep to.
package limit

const (
	MaxProgram = 600 // bytes of a program
	MaxText    = 500 // bytes of a text
	MaxArgs    = 12  // arguments of a format
)
