package tokens

import "glean/patterns"

// With more digits a number would not always fit into 64 bits.
const maxDigits = 18

func (r *Reader) number() (Token, int) {
	end := r.at
	for end < len(r.text) && isDigit(r.text[end]) {
		end++
	}
	if end-r.at > maxDigits || end < len(r.text) && isLetter(r.text[end]) {
		return r.wrong()
	}
	return r.token(Number, end)
}

// name reads a name, a word or an own call.
func (r *Reader) name() (Token, int) {
	end := r.at
	for end < len(r.text) && (isLetter(r.text[end]) || isDigit(r.text[end])) {
		end++
	}
	switch name := r.text[r.at:end]; {
	case isWord(name):
		return r.token(Word, end)
	case isOwn(name):
		return r.token(Own, end)
	case end < len(r.text) && r.text[end] == '(':
		return r.token(CallName, end)
	}
	return r.token(Name, end)
}

func isWord(name string) bool {
	switch name {
	case "BEGIN", "END", "function", "if", "else", "while", "for", "in",
		"print", "next", "exit", "return", "break", "continue", "delete":
		return true
	}
	return false
}

func isOwn(name string) bool {
	switch name {
	case "length", "substr", "index", "split", "sub", "gsub", "match",
		"toupper", "tolower", "sprintf":
		return true
	}
	return false
}

// quoted reads a string.
func (r *Reader) quoted() (Token, int) {
	var text []byte
	for at := r.at + 1; at < len(r.text); at++ {
		b := r.text[at]
		switch b {
		case '"':
			return Token{Kind: String, Text: string(text), At: r.at}, at + 1
		case '\n':
			return r.wrong()
		case '\\':
			at++
			var ok bool
			if b, ok = r.escaped(at); !ok {
				return r.wrong()
			}
		}
		text = append(text, b)
	}
	return r.wrong()
}

// escaped answers the byte that the one at the place stands for behind a
// backslash in a string.
func (r *Reader) escaped(at int) (byte, bool) {
	if at == len(r.text) {
		return 0, false
	}
	switch b := r.text[at]; b {
	case 'n':
		return '\n', true
	case 't':
		return '\t', true
	case '"', '\\', '/':
		return b, true
	}
	return 0, false
}

func (r *Reader) pattern() (Token, int) {
	first := r.at + 1
	end, ok := r.patternEnd(first)
	if !ok {
		return r.wrong()
	}
	text := r.text[first:end]
	if _, ok := patterns.Read(text); !ok {
		return r.wrong()
	}
	return Token{Kind: Pattern, Text: text, At: r.at}, end + 1
}

// patternEnd answers the place of the / that ends the pattern which begins
// at the place at. A backslash goes with the byte behind it, so that the /
// behind two of them ends the pattern.
func (r *Reader) patternEnd(at int) (int, bool) {
	for ; at < len(r.text) && r.text[at] != '\n'; at++ {
		switch {
		case r.text[at] == '/':
			return at, true
		case r.text[at] == '\\' && at+1 < len(r.text) && r.text[at+1] != '\n':
			at++
		}
	}
	return 0, false
}

// sign reads the longest sign that stands at the reader's place.
func (r *Reader) sign() (Token, int) {
	rest := r.text[r.at:]
	if len(rest) > 1 && isDoubleSign(rest[:2]) {
		return r.token(Sign, r.at+2)
	}
	if isSingleSign(rest[0]) {
		return r.token(Sign, r.at+1)
	}
	return r.wrong()
}

func isDoubleSign(s string) bool {
	switch s {
	case "||", "&&", "!~", "<=", "==", "!=", ">=", "+=", "-=", "*=", "/=", "%=":
		return true
	}
	return false
}

func isSingleSign(b byte) bool {
	switch b {
	case '{', '}', '(', ')', '[', ']', ';', ',', '+', '-', '*', '/', '%',
		'!', '>', '<', '~', '?', ':', '=', '$':
		return true
	}
	return false
}
