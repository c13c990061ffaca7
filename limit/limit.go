// Package limit holds the bounds that several packages keep to.
package limit

const (
	MaxText = 500 // bytes of a text
	MaxArgs = 12  // arguments of a format
)
