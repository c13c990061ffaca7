// Package value holds what a program works with: nothing yet, numbers, texts,
// and numerals (texts that were read and spell a number).
package value

import (
	"cmp"
	"strconv"
)

// A kind says which sort of value a Value is.
type kind int

// kindNothing is 0, so that the zero Value is nothing yet.
const (
	kindNothing kind = iota
	kindNumber
	kindText
	kindNumeral
)

// A Value is one value; the zero Value is nothing yet.
type Value struct {
	kind   kind
	number int64
	text   string
}

// OfNumber makes a value of a number.
func OfNumber(number int64) Value { return Value{kind: kindNumber, number: number} }

// OfText makes a value of a text that was not read.
func OfText(text string) Value { return Value{kind: kindText, text: text} }

// OfTruth makes a 1 or a 0.
func OfTruth(is bool) Value {
	if is {
		return OfNumber(1)
	}
	return OfNumber(0)
}

// Read makes a value of a text that was read: a numeral, if it spells a
// number and has nothing else but blanks, else a text.
func Read(s string) Value {
	number, end, ok := leading(s)
	if ok && skipBlanks(s, end) == len(s) {
		return Value{kind: kindNumeral, number: number, text: s}
	}
	return Value{kind: kindText, text: s}
}

// IsText tells whether the value is a text and no numeral.
func (v Value) IsText() bool { return v.kind == kindText }

// Text answers the value's text.
func (v Value) Text() string {
	if v.kind == kindNumber {
		return strconv.FormatInt(v.number, 10)
	}
	return v.text
}

// Number answers the value's number.
func (v Value) Number() int64 {
	if v.kind == kindText {
		number, _, _ := leading(v.text)
		return number
	}
	return v.number
}

// IsTrue tells whether the value is taken as true.
func (v Value) IsTrue() bool {
	if v.IsText() {
		return v.text != ""
	}
	return v.number != 0
}

// Compare answers a number below 0, 0 or a number above 0, as the first value
// is below the second one, the same or above it.
func Compare(a Value, b Value) int {
	if a.IsText() || b.IsText() {
		return cmp.Compare(a.Text(), b.Text())
	}
	return cmp.Compare(a.number, b.number)
}

// IsBlank tells whether a byte is one of the language's blanks.
func IsBlank(b byte) bool { return b == ' ' || b == '\t' || b == '\n' }

// leading answers the number with which a text begins and the place behind
// it; false, if it begins with none.
func leading(s string) (int64, int, bool) {
	at := skipBlanks(s, 0)
	minus := at < len(s) && s[at] == '-'
	if minus || at < len(s) && s[at] == '+' {
		at++
	}
	first := at
	var number int64
	for at < len(s) && '0' <= s[at] && s[at] <= '9' {
		number = number*10 + int64(s[at]-'0')
		at++
	}
	if minus {
		number = -number
	}
	return number, at, at > first
}

// skipBlanks answers the first place from at on where no blank stands.
func skipBlanks(s string, at int) int {
	for at < len(s) && IsBlank(s[at]) {
		at++
	}
	return at
}
