// Package limit holds the bounds that several packages keep to.
package limit

const (
	MaxProgram = 600  // bytes of a program
	MaxInput   = 400  // bytes of an input
	MaxText    = 500  // bytes of a text
	MaxArgs    = 12   // arguments of a format
	MaxFuel    = 2000 // steps of a run
	MaxFields  = 40   // fields of a record
	MaxDepth   = 15   // calls that have begun and not ended
	MaxOut     = 4000 // bytes that a run puts out
)
