// Package layout makes texts of formats and values.
package layout

import (
	"strings"

	"glean/fault"
	"glean/limit"
	"glean/value"
)

// Make makes the format's text, each item in the place of the next value
// (nothing yet, if there is none left); else it answers fault.ErrFormat or
// fault.ErrText.
func Make(format string, args []value.Value) (string, error) {
	made := []byte{}
	for at := 0; at < len(format); {
		switch {
		case format[at] != '%':
			made = append(made, format[at])
			at++
		case strings.HasPrefix(format[at:], "%%"):
			made = append(made, '%')
			at += 2
		default:
			i, next, ok := readItem(format, at+1)
			if !ok {
				return "", fault.ErrFormat
			}
			var arg value.Value
			if len(args) > 0 {
				arg, args = args[0], args[1:]
			}
			made = append(made, i.text(arg)...)
			at = next
		}
		if len(made) > limit.MaxText {
			return "", fault.ErrText
		}
	}
	return string(made), nil
}
