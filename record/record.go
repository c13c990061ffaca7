// Package record holds the record that a run is at, and its fields.
package record

import (
	"strings"

	"glean/fault"
	"glean/limit"
	"glean/pieces"
	"glean/value"
)

// A Record is a text and its fields; the zero Record is the empty one.
type Record struct {
	text   string
	fields []string
}

func (r *Record) Text() string { return r.text }

// Count answers how many fields there are.
func (r *Record) Count() int { return len(r.fields) }

// CheckNumber answers fault.ErrField, if there can be no field of a number
// (and no record with so many of them).
func CheckNumber(number int64) error {
	if number < 0 || number > limit.MaxFields {
		return fault.ErrField
	}
	return nil
}

// Become makes the record a text, and cuts it into fields by a separator.
func (r *Record) Become(text string, separator string) error {
	fields, ok := pieces.Cut(text, separator)
	if !ok {
		return fault.ErrRegex
	}
	if err := CheckNumber(int64(len(fields))); err != nil {
		return err
	}
	r.text, r.fields = text, fields
	return nil
}

// Take answers the field of a number, or for 0 the record, as what was read.
func (r *Record) Take(number int) value.Value {
	switch {
	case number == 0:
		return value.Read(r.text)
	case number <= len(r.fields):
		return value.Read(r.fields[number-1])
	}
	return value.Value{}
}

// StoreField makes a field a text; between stands in the record between the
// fields.
func (r *Record) StoreField(number int, text string, between string) error {
	if number > len(r.fields) {
		if err := r.Resize(number, between); err != nil {
			return err
		}
	}
	r.fields[number-1] = text
	return r.join(between)
}

// Resize makes the fields so many; new ones are empty.
func (r *Record) Resize(count int, between string) error {
	for len(r.fields) < count {
		r.fields = append(r.fields, "")
	}
	r.fields = r.fields[:count]
	return r.join(between)
}

// join makes the record of its fields.
func (r *Record) join(between string) error {
	text := strings.Join(r.fields, between)
	if len(text) > limit.MaxText {
		return fault.ErrText
	}
	r.text = text
	return nil
}
