package run

import (
	"strconv"
	"strings"

	"glean/arrays"
	"glean/fault"
	"glean/layout"
	"glean/machine"
	"glean/patterns"
	"glean/pieces"
	"glean/replacing"
	"glean/tree"
	"glean/value"
)

// ownCall makes one of the language's own calls ready.
func (k *maker) ownCall(c tree.OwnCall) expression {
	switch c.Name.Text {
	case "match":
		return k.matching(c.Args)
	case "split":
		return k.splitting(c.Args)
	case "sub":
		return k.replacement(c.Args, replacing.First)
	case "gsub":
		return k.replacement(c.Args, replacing.All)
	case "sprintf":
		return k.formatting(c.Args)
	}
	args := k.exprs(c.Args)
	answer := answerOf(c.Name.Text)
	return expression{work: func(m *machine.Machine) value.Value { return answer(valuesOf(m, args)) }}
}

// valuesOf works a list out.
func valuesOf(m *machine.Machine, list []expression) []value.Value {
	values := make([]value.Value, len(list))
	for i, e := range list {
		values[i] = e.work(m)
	}
	return values
}

// answerOf answers what makes an own call's answer of its arguments' values.
func answerOf(own string) func(args []value.Value) value.Value {
	switch own {
	case "length":
		return func(args []value.Value) value.Value { return ofCount(len(args[0].Text())) }
	case "index":
		return index
	case "substr":
		return substr
	case "toupper":
		return func(args []value.Value) value.Value { return value.OfText(turned(args[0].Text(), 'a', 'z')) }
	}
	return func(args []value.Value) value.Value { return value.OfText(turned(args[0].Text(), 'A', 'Z')) }
}

func ofCount(count int) value.Value { return value.OfNumber(int64(count)) }

func index(args []value.Value) value.Value {
	part := args[1].Text()
	if part == "" {
		return value.OfNumber(0)
	}
	return ofCount(strings.Index(args[0].Text(), part) + 1)
}

func substr(args []value.Value) value.Value {
	text, from := args[0].Text(), args[1].Number()
	if len(args) == 2 {
		return value.OfText(part(text, max(from, 1), int64(len(text))))
	}
	return value.OfText(part(text, from, args[2].Number()))
}

// part answers the bytes at the places of a text from one on (1 is the
// first), so many places; where the text has no such place there is none.
func part(text string, from int64, count int64) string {
	if count < 1 || from > int64(len(text)) {
		return ""
	}
	if from < 1 {
		// In this order no sum leaves the numbers that there are.
		count, from = count-1+from, 1
	}
	text = text[from-1:]
	return text[:min(max(count, 0), int64(len(text)))]
}

// turned answers a text whose letters from first to last are turned from
// small to great or from great to small.
func turned(text string, first byte, last byte) string {
	bytes := []byte(text)
	for i, b := range bytes {
		if first <= b && b <= last {
			bytes[i] = b ^ ('a' ^ 'A')
		}
	}
	return string(bytes)
}

func (k *maker) formatting(args []tree.Expr) expression {
	list := k.exprs(args)
	return expression{work: func(m *machine.Machine) value.Value {
		values := valuesOf(m, list)
		text, err := layout.Make(values[0].Text(), values[1:])
		m.Check(err)
		return value.OfText(text)
	}}
}

func (k *maker) matching(args []tree.Expr) expression {
	text, pattern := k.expr(args[0]), k.pattern(args[1])
	return expression{work: func(m *machine.Machine) value.Value {
		in := text.work(m).Text()
		at, length := pattern(m).Find(in)
		if at < 0 {
			length = -1
		}
		start := ofCount(at + 1)
		m.SetVariable(machine.RSTART, start)
		m.SetVariable(machine.RLENGTH, ofCount(length))
		return start
	}}
}

func (k *maker) splitting(args []tree.Expr) expression {
	name, _ := args[1].(tree.Name)
	text, array, pieces := k.expr(args[0]), k.array(name), k.cutting(args[2:])
	return expression{work: func(m *machine.Machine) value.Value {
		list := pieces(m, text.work(m).Text())
		number := array.number(m)
		m.Arrays.Empty(number)
		for i, piece := range list {
			m.Arrays.Store(arrays.Key{Array: number, Text: strconv.Itoa(i + 1)}, value.Read(piece))
		}
		return ofCount(len(list))
	}}
}

// cutting answers what cuts a text by a separator; without one, by FS.
func (k *maker) cutting(separator []tree.Expr) func(m *machine.Machine, text string) []string {
	if len(separator) == 0 {
		return func(m *machine.Machine, text string) []string { return cut(m, text, m.Text(machine.FS)) }
	}
	if bare, ok := separator[0].(tree.Pattern); ok {
		p := k.pattern(bare)
		return func(m *machine.Machine, text string) []string { return pieces.BetweenMatches(text, p(m)) }
	}
	by := k.expr(separator[0])
	return func(m *machine.Machine, text string) []string { return cut(m, text, by.work(m).Text()) }
}

func cut(m *machine.Machine, text string, separator string) []string {
	list, ok := pieces.Cut(text, separator)
	if !ok {
		m.GiveUp(fault.ErrRegex)
	}
	return list
}

// A replacer replaces matches in a text and answers how many there were.
type replacer func(p patterns.Pattern, text string, with string) (string, int, error)

// replacement makes sub and gsub ready; without a place they go to $0.
func (k *maker) replacement(args []tree.Expr, replace replacer) expression {
	pattern, with := k.pattern(args[0]), k.expr(args[1])
	to := k.field(tree.Field{Number: tree.Number{Number: 0}})
	if len(args) > 2 {
		to = k.expr(args[2])
	}
	return expression{work: func(m *machine.Machine) value.Value {
		p := pattern(m)
		by := with.work(m).Text()
		found := to.find(m)
		text, count, err := replace(p, found.take().Text(), by)
		m.Check(err)
		if count > 0 {
			found.store(value.OfText(text))
		}
		return ofCount(count)
	}}
}
