// Package writer writes a program out in one way.
package writer

import (
	"strings"

	"glean/tree"
)

// A writer gathers what it writes; its methods write a blank behind what
// stands for itself, and none behind an expression.
type writer struct{ strings.Builder }

// Write answers the program's text, in which every bracket stands that its
// meaning has.
func Write(program tree.Program) string {
	var w writer
	for _, f := range program.Functions {
		w.function(f)
	}
	for _, r := range program.Rules {
		w.rule(r)
	}
	return w.String()
}

// put writes one text behind the other.
func (w *writer) put(texts ...string) {
	for _, text := range texts {
		w.WriteString(text)
	}
}

func (w *writer) function(f tree.Function) {
	w.put("function ", f.Name.Text, "(")
	for i, p := range f.Params {
		if i > 0 {
			w.put(", ")
		}
		w.put(p.Name.Text)
		if p.IsArray {
			w.put("[]")
		}
	}
	w.put(") ")
	w.block(f.Body)
}

func (w *writer) rule(r tree.Rule) {
	switch r.Kind {
	case tree.AtBegin:
		w.put("BEGIN ")
	case tree.AtEnd:
		w.put("END ")
	}
	if len(r.Conditions) > 0 {
		w.list(r.Conditions)
		w.put(" ")
	}
	w.block(r.Body)
}
