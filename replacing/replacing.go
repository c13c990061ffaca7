// Package replacing replaces matches of a pattern in a text.
package replacing

import (
	"glean/fault"
	"glean/limit"
	"glean/patterns"
)

// First replaces the first match, and answers how many there were too: 1 or
// 0. The text that is made may grow too long: fault.ErrText.
func First(p patterns.Pattern, text string, with string) (string, int, error) {
	at, length := p.Find(text, 0)
	if at < 0 {
		return text, 0, nil
	}
	end := at + length
	made := appendReplacement([]byte(text[:at]), with, text[at:end])
	made = append(made, text[end:]...)
	if len(made) > limit.MaxText {
		return "", 0, fault.ErrText
	}
	return string(made), 1, nil
}

// All replaces all matches, and answers how many there were too.
func All(p patterns.Pattern, text string, with string) (string, int, error) {
	var made []byte
	count := 0
	from := 0  // what stands ahead of this place is done
	last := -1 // where the last match ended
	for from <= len(text) {
		at, length := p.Find(text, from)
		if at < 0 {
			break
		}
		made = append(made, text[from:at]...)
		from = at + length
		if length > 0 || at != last {
			made = appendReplacement(made, with, text[at:from])
			count++
			last = from
		}
		if length == 0 {
			made = append(made, text[at:min(at+1, len(text))]...)
			from = at + 1
		}
		if len(made) > limit.MaxText {
			return "", 0, fault.ErrText
		}
	}
	if count == 0 {
		return text, 0, nil
	}
	made = append(made, text[min(from, len(text)):]...)
	if len(made) > limit.MaxText {
		return "", 0, fault.ErrText
	}
	return string(made), count, nil
}

// appendReplacement puts to what is made the replacement of a match: & in it
// stands for the match, and \& for &.
func appendReplacement(made []byte, with string, match string) []byte {
	for i := 0; i < len(with); i++ {
		switch {
		case with[i] == '&':
			made = append(made, match...)
		case with[i] == '\\' && i+1 < len(with) && with[i+1] == '&':
			made = append(made, '&')
			i++
		default:
			made = append(made, with[i])
		}
	}
	return made
}
