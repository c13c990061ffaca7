// Package tokens cuts a program's text into tokens.
package tokens

import "glean/value"

// A Kind says what a token is.
type Kind int

const (
	Wrong Kind = iota // what is no token
	End               // the text's end
	Number
	String
	Pattern
	Name     // a name without ( right behind it
	CallName // a name with ( right behind it
	Word
	Own // an own call of the language
	Sign
)

// A Token is what stands at a place of the text. Its text is what is
// written there; of a string it is what that stands for, of a pattern what
// stands between the slashes.
type Token struct {
	Kind Kind
	Text string
	At   int
}

// A Reader reads a text's tokens one by one.
type Reader struct {
	text    string
	at      int
	divides bool // what a / would do at the reader's place
}

// NewReader answers a reader of the text from its beginning on.
func NewReader(text string) Reader { return Reader{text: text} }

// Next reads the next token. Behind what is no token there is no next one.
func (r *Reader) Next() Token {
	r.skip()
	token, end := r.read()
	r.at = end
	r.divides = endsOperand(token)
	return token
}

// skip goes past blanks and comments.
func (r *Reader) skip() {
	for !r.ended() && (value.IsBlank(r.text[r.at]) || r.text[r.at] == '#') {
		if r.text[r.at] == '#' {
			r.skipLine()
		} else {
			r.at++
		}
	}
}

func (r *Reader) skipLine() {
	for !r.ended() && r.text[r.at] != '\n' {
		r.at++
	}
}

func (r *Reader) ended() bool { return r.at == len(r.text) }

// endsOperand tells whether a / behind the token divides.
func endsOperand(t Token) bool {
	switch t.Kind {
	case Number, String, Pattern, Name:
		return true
	case Sign:
		return t.Text == ")" || t.Text == "]"
	}
	return false
}

// read answers the token at the reader's place, and the place behind it.
func (r *Reader) read() (Token, int) {
	if r.ended() {
		return Token{Kind: End, At: r.at}, r.at
	}
	b := r.text[r.at]
	switch {
	case isDigit(b):
		return r.number()
	case isLetter(b):
		return r.name()
	case b == '"':
		return r.quoted()
	case b == '/' && !r.divides:
		return r.pattern()
	}
	return r.sign()
}

// wrong answers that at the reader's place stands what is no token.
func (r *Reader) wrong() (Token, int) { return Token{Kind: Wrong, At: r.at}, r.at }

// token answers the token of that kind that ends ahead of the place end.
func (r *Reader) token(kind Kind, end int) (Token, int) {
	return Token{Kind: kind, Text: r.text[r.at:end], At: r.at}, end
}

func isDigit(b byte) bool { return '0' <= b && b <= '9' }

func isLetter(b byte) bool {
	return 'a' <= b && b <= 'z' || 'A' <= b && b <= 'Z' || b == '_'
}
