// Package replacing replaces matches of a pattern in a text.
package replacing

import (
	"glean/fault"
	"glean/limit"
	"glean/patterns"
)

// First replaces the first match, and answers how many there were too: 1 or
// 0. The text that is made may grow too long: fault.ErrText.
func First(p patterns.Pattern, text string, with string) (string, int, error) {
	at, length := p.Find(text)
	if at < 0 {
		return text, 0, nil
	}
	end := at + length
	made := appendReplacement([]byte(text[:at]), with, text[at:end])
	made = append(made, text[end:]...)
	if len(made) > limit.MaxText {
		return "", 0, fault.ErrText
	}
	return string(made), 1, nil
}

// All replaces all matches, and answers how many there were too.
func All(p patterns.Pattern, text string, with string) (string, int, error) {
	lengths := p.Longest(text)
	var made []byte
	count := 0
	last := -1 // where the last match ended
	for at := 0; at <= len(text); {
		length := lengths[at]
		if length > 0 || length == 0 && at != last {
			made = appendReplacement(made, with, text[at:at+length])
			count++
			at += length
			last = at
		}
		if length <= 0 {
			made = append(made, text[at:min(at+1, len(text))]...)
			at++
		}
		if count > 0 && len(made) > limit.MaxText {
			return "", 0, fault.ErrText
		}
	}
	return string(made), count, nil
}

// appendReplacement puts to what is made the replacement of a match: & in it
// stands for the match, and \& for &.
func appendReplacement(made []byte, with string, match string) []byte {
	for i := 0; i < len(with); i++ {
		switch {
		case with[i] == '&':
			made = append(made, match...)
		case with[i] == '\\' && i+1 < len(with) && with[i+1] == '&':
			made = append(made, '&')
			i++
		default:
			made = append(made, with[i])
		}
	}
	return made
}
