package machine

import (
	"glean/record"
	"glean/value"
)

func (m *Machine) Variable(number int) value.Value { return m.variables[number] }

// Text answers a variable's text.
func (m *Machine) Text(number int) string { return m.variables[number].Text() }

// SetVariable stores a value to a variable; NF says how many fields the
// record has.
func (m *Machine) SetVariable(number int, v value.Value) {
	if number == NF {
		m.resize(v.Number())
		return
	}
	m.variables[number] = v
}

func (m *Machine) resize(count int64) {
	m.Check(record.CheckNumber(count))
	m.Check(m.record.Resize(int(count), m.Text(OFS)))
	m.countFields()
}

// countFields makes NF the number of the fields.
func (m *Machine) countFields() {
	m.variables[NF] = value.OfNumber(int64(m.record.Count()))
}

// Read makes a line the next record.
func (m *Machine) Read(line string) {
	m.variables[NR] = value.OfNumber(m.variables[NR].Number() + 1)
	m.become(line)
}

func (m *Machine) become(text string) {
	m.Check(m.record.Become(text, m.Text(FS)))
	m.countFields()
}

// Record answers the record's text.
func (m *Machine) Record() string { return m.record.Text() }

// FieldNumber answers which field, or for 0 the record, a value means.
func (m *Machine) FieldNumber(v value.Value) int {
	number := v.Number()
	m.Check(record.CheckNumber(number))
	return int(number)
}

// Field answers the field of a number, or for 0 the record.
func (m *Machine) Field(number int) value.Value { return m.record.Take(number) }

// SetField stores a value to the field of a number, or for 0 to the record.
func (m *Machine) SetField(number int, v value.Value) {
	if number == 0 {
		m.become(v.Text())
		return
	}
	m.Check(m.record.StoreField(number, v.Text(), m.Text(OFS)))
	m.countFields()
}
