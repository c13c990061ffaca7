package glean_test

import (
	"strings"
	"testing"

	"glean/glean"
)

type formatCase struct {
	format string
	arg    string
	text   string
}

func checkFormats(t *testing.T, cases []formatCase) {
	t.Helper()
	for _, c := range cases {
		if text, e := glean.Format(c.format, []string{c.arg}); text != c.text || e != glean.OK {
			t.Errorf("P6: Format(%q, %q) = %q, %d, want %q", c.format, c.arg, text, e, c.text)
		}
	}
}

func TestP6Long(t *testing.T) {
	full := strings.Repeat("a", maxText)
	many := make([]string, 13)
	for _, c := range []struct {
		format string
		args   []string
		text   string
		e      glean.Errno
	}{
		{full, nil, full, glean.OK},
		{full + "a", nil, "", glean.ErrLong},
		{full + "%", nil, "", glean.ErrLong},
		{"", []string{full}, "", glean.OK},
		{"%s", []string{full}, full, glean.OK},
		{"", []string{"", full + "a"}, "", glean.ErrLong},
		{"%", []string{full + "a"}, "", glean.ErrLong},
		{"", many[:12], "", glean.OK},
		{"", many, "", glean.ErrLong},
		{"%", many, "", glean.ErrLong},
	} {
		if text, e := glean.Format(c.format, c.args); text != c.text || e != c.e {
			t.Errorf("P6: a format of %d bytes, %d arguments: %q, %d, want %d", len(c.format), len(c.args), text, e, c.e)
		}
	}
}

func TestP6NoFormat(t *testing.T) {
	for _, format := range []string{
		"%", "a%", "%%%", "%d%", "%q", "%D", "%i", "% d", "%+d", "%#x", "%*d", "%ld", "%\x00", "%\xff", "%\n",
		"%100d", "%0100d", "%123s", "%-", "%0", "%5", "%12", "%5-d", "%1-1d", "%d%q", "%a%d",
		"%5%", "%-%", "%0%", "%.%", "%.5%", "%.", "%5.", "%.5", "%.123s", "%.-1s", "%..s", "%.5.5s", "%.2d", "%.x", "%5.1c", "%.0d", "%.q",
	} {
		if text, e := glean.Format(format, []string{"1", "2"}); text != "" || e != glean.ErrFormat {
			t.Errorf("P6: Format(%q) = %q, %d, want ErrFormat", format, text, e)
		}
	}
	for _, b := range []byte(allBytes()) {
		if strings.IndexByte("dxcs%", b) >= 0 {
			continue
		}
		format := string([]byte{'%', b})
		if text, e := glean.Format(format, nil); text != "" || e != glean.ErrFormat {
			t.Errorf("P6: Format(%q) = %q, %d, want ErrFormat", format, text, e)
		}
	}
}

// What comes first from the format's beginning on is the answer.
func TestP6FirstError(t *testing.T) {
	fill := strings.Repeat("%99s", 5) // 495 bytes of text
	full := strings.Repeat("a", maxText)
	for _, c := range []struct {
		format string
		arg    string
		e      glean.Errno
	}{
		{fill + "12345", "", glean.OK},
		{fill + "123456", "", glean.ErrText},
		{fill + "1234%%", "", glean.OK},
		{fill + "12345%%", "", glean.ErrText},
		{fill + "%5d", "", glean.OK},
		{fill + "%6d", "", glean.ErrText},
		{fill + "%6d%q", "", glean.ErrText},
		{fill + "123456%", "", glean.ErrText},
		{fill + "12345%%%", "", glean.ErrText},
		{fill + "12345%", "", glean.ErrFormat},
		{fill + "12345%q", "", glean.ErrFormat},
		{fill + "%q%6d", "", glean.ErrFormat},
		{"%q" + fill + "%6d", "", glean.ErrFormat},
		{"%s", full, glean.OK},
		{"%s%s", full, glean.OK},
		{"%sb", full, glean.ErrText},
		{"b%s", full, glean.ErrText},
		{"%sb%", full, glean.ErrText},
		{"%s%", full, glean.ErrFormat},
		{"%.99s%", full, glean.ErrFormat},
	} {
		text, e := glean.Format(c.format, []string{c.arg})
		if e != c.e || (e != glean.OK) != (text == "") {
			t.Errorf("P6: Format(%q, ..) = %q, %d, want %d", c.format, text, e, c.e)
		}
	}
}

func TestP6Arguments(t *testing.T) {
	for _, c := range []struct {
		format string
		args   []string
		text   string
	}{
		{"", nil, ""},
		{"", []string{"a"}, ""},
		{"%s%s", []string{"a", "b", "c"}, "ab"},
		{"%%%s%%%s", []string{"a", "b"}, "%a%b"},
		{"%d|%x|%c|%s|", nil, "0|0|\x00||"},
		{"%3d|%03x|%2c|%2s|", nil, "  0|000| \x00|  |"},
		{"%s%d", []string{"a"}, "a0"},
		{"%d %d %d %d %d %d %d %d %d %d %d %d %d", []string{"1", "2", "3", "4", "5", "6", "7", "8", "9", "10", "11", "12"}, "1 2 3 4 5 6 7 8 9 10 11 12 0"},
	} {
		if text, e := glean.Format(c.format, c.args); text != c.text || e != glean.OK {
			t.Errorf("P6: Format(%q, %q) = %q, %d, want %q", c.format, c.args, text, e, c.text)
		}
	}
}

func TestP6Numbers(t *testing.T) {
	checkFormats(t, []formatCase{
		{"%d", "0", "0"}, {"%d", "-0", "0"}, {"%d", "007", "7"}, {"%d", "+7", "7"}, {"%d", " \t\n-7\n ", "-7"}, {"%d", "", "0"},
		{"%d", "7x", "7"}, {"%d", " -7-7", "-7"}, {"%d", "x7", "0"}, {"%d", "-", "0"}, {"%d", "- 7", "0"}, {"%d", "+-7", "0"}, {"%d", "\r7", "0"},
		{"%d", "1.9", "1"}, {"%d", "0x10", "0"}, {"%d", "1e3", "1"}, {"%d", "1 2", "1"},
		{"%d", "9223372036854775807", "9223372036854775807"}, {"%d", "9223372036854775808", "-9223372036854775808"},
		{"%d", "-9223372036854775808", "-9223372036854775808"}, {"%d", "-9223372036854775809", "9223372036854775807"},
		{"%d", "18446744073709551616", "0"}, {"%d", "18446744073709551617x", "1"}, {"%d", strings.Repeat("0", 499) + "5", "5"},
		{"%x", "0", "0"}, {"%x", "10", "a"}, {"%x", "48879", "beef"}, {"%x", "-1", "ffffffffffffffff"}, {"%x", "16z", "10"},
		{"%x", "-9223372036854775808", "8000000000000000"},
	})
}

func TestP6Characters(t *testing.T) {
	checkFormats(t, []formatCase{
		{"%c", "65", "A"}, {"%c", " +65 ", "A"}, {"%c", "321", "A"}, {"%c", "-1", "\xff"}, {"%c", "-256", "\x00"}, {"%c", "256", "\x00"},
		{"%c", "xyz", "x"}, {"%c", "", ""}, {"%c", "65x", "6"}, {"%c", " 65x", " "}, {"%c", "-", "-"}, {"%c", "\xc3\xa9", "\xc3"}, {"%c", "6 5", "6"},
		{"%c", "200", "\xc8"}, {"%3c|", "", "   |"}, {"%-3c|", "x", "x  |"}, {"%03c|", "x", "  x|"}, {"%03c|", "65", "  A|"},
	})
}

func TestP6Strings(t *testing.T) {
	checkFormats(t, []formatCase{
		{"%s", "", ""}, {"%s", " 7 ", " 7 "}, {"%s", "007", "007"}, {"%s", allBytes(), allBytes()}, {"%s", "%d", "%d"},
		{"%.s", "abc", ""}, {"%.0s", "abc", ""}, {"%.1s", "abc", "a"}, {"%.02s", "abc", "ab"}, {"%.3s", "abc", "abc"}, {"%.99s", "abc", "abc"},
		{"%.2s", " 7 ", " 7"}, {"%3.1s|", "abc", "  a|"}, {"%-3.1s|", "abc", "a  |"}, {"%3.s|", "abc", "   |"}, {"%05.2s|", "abc", "   ab|"},
	})
	// A precision has two digits at most, zeros ahead counted.
	if text, e := glean.Format("%.003s", []string{"abc"}); text != "" || e != glean.ErrFormat {
		t.Errorf("P6: a precision of three digits: %q, %d", text, e)
	}
}

func TestP6Widths(t *testing.T) {
	checkFormats(t, []formatCase{
		{"%5d|", "42", "   42|"}, {"%5d|", "-42", "  -42|"}, {"%05d|", "42", "00042|"}, {"%05d|", "-42", "-0042|"}, {"%-5d|", "-42", "-42  |"},
		{"%-05d|", "42", "42   |"}, {"%0-5d|", "42", "42   |"}, {"%0000005d|", "42", "00042|"}, {"%--0-05d|", "42", "42   |"}, {"%-----5d|", "42", "42   |"},
		{"%2d|", "42", "42|"}, {"%1d|", "-42", "-42|"}, {"%03d|", "-42", "-42|"}, {"%04d|", "-42", "-042|"}, {"%00d|", "7", "7|"}, {"%-d|", "7", "7|"},
		{"%0d|", "7", "7|"}, {"%010d|", "7", "0000000007|"}, {"%10d|", "7", "         7|"}, {"%99d", "7", strings.Repeat(" ", 98) + "7"},
		{"%099d", "-7", "-" + strings.Repeat("0", 97) + "7"}, {"%-99d|", "7", "7" + strings.Repeat(" ", 98) + "|"},
		{"%4x|", "255", "  ff|"}, {"%04x|", "255", "00ff|"}, {"%-04x|", "255", "ff  |"}, {"%018x|", "-1", "00ffffffffffffffff|"},
		{"%4s|", "ab", "  ab|"}, {"%04s|", "ab", "  ab|"}, {"%-4s|", "ab", "ab  |"}, {"%-04s|", "ab", "ab  |"}, {"%04s|", "-7", "  -7|"}, {"%1s|", "ab", "ab|"},
		{"%2s|", "\xc3\xa9", "\xc3\xa9|"}, {"%3s|", "\xc3\xa9", " \xc3\xa9|"},
	})
}

// Every byte but % stands for itself.
func TestP6PlainBytes(t *testing.T) {
	format := strings.ReplaceAll(allBytes(), "%", "%%")
	if text, e := glean.Format(format, nil); text != allBytes() || e != glean.OK {
		t.Errorf("P6: Format of all bytes = %q, %d", text, e)
	}
}
