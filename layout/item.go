package layout

import (
	"strconv"
	"strings"

	"glean/value"
)

// An item is what one item of a format asks for.
type item struct {
	behind    bool // the flag -
	zeros     bool // the flag 0
	width     int
	precise   bool // whether there is a precision
	precision int
	letter    byte
}

// readItem reads the item whose % stands right ahead of a place, and answers
// the place behind it too; false, if there is none.
func readItem(format string, at int) (item, int, bool) {
	var i item
	at = i.readFlags(format, at)
	i.width, at = readDigits(format, at)
	if at < len(format) && format[at] == '.' {
		i.precise = true
		i.precision, at = readDigits(format, at+1)
	}
	if at == len(format) {
		return item{}, at, false
	}
	i.letter = format[at]
	return i, at + 1, i.isKnown()
}

// readFlags reads the flags from a place on and answers the place behind
// them.
func (i *item) readFlags(format string, at int) int {
	for ; at < len(format); at++ {
		switch format[at] {
		case '-':
			i.behind = true
		case '0':
			i.zeros = true
		default:
			return at
		}
	}
	return at
}

// readDigits reads at most two digits and answers their number and the place
// behind them.
func readDigits(format string, at int) (int, int) {
	number := 0
	for end := min(at+2, len(format)); at < end && isDigit(format[at]); at++ {
		number = number*10 + int(format[at]-'0')
	}
	return number, at
}

func isDigit(b byte) bool { return '0' <= b && b <= '9' }

// isKnown tells whether there are items with this letter and, if there is
// one, with a precision.
func (i item) isKnown() bool {
	switch i.letter {
	case 's':
		return true
	case 'd', 'x', 'c':
		return !i.precise
	}
	return false
}

// text answers what stands in the place of the item.
func (i item) text(v value.Value) string {
	switch i.letter {
	case 'd':
		return i.fillNumber(strconv.FormatInt(v.Number(), 10))
	case 'x':
		return i.fillNumber(strconv.FormatUint(uint64(v.Number()), 16))
	case 'c':
		return i.fill(character(v))
	}
	return i.fill(i.shorten(v.Text()))
}

// character answers the byte that a value stands for; of the empty text
// none.
func character(v value.Value) string {
	if v.IsText() {
		text := v.Text()
		return text[:min(1, len(text))]
	}
	return string([]byte{byte(v.Number())})
}

func (i item) shorten(text string) string {
	if i.precise {
		return text[:min(i.precision, len(text))]
	}
	return text
}

// fill fills a text up to the width with blanks.
func (i item) fill(text string) string {
	blanks := strings.Repeat(" ", i.missing(text))
	if i.behind {
		return text + blanks
	}
	return blanks + text
}

// fillNumber fills a number's text, with zeros if these are asked for.
func (i item) fillNumber(text string) string {
	if i.behind || !i.zeros {
		return i.fill(text)
	}
	zeros := strings.Repeat("0", i.missing(text))
	if digits, minus := strings.CutPrefix(text, "-"); minus {
		return "-" + zeros + digits
	}
	return zeros + text
}

// missing answers how many bytes a text is shorter than the width.
func (i item) missing(text string) int { return max(0, i.width-len(text)) }
