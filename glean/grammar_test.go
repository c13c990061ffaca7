package glean_test

import (
	"math/rand"
	"slices"
	"strings"
	"testing"

	"glean/glean"
)

// The document's grammar without [ ] and { }: what may be missing and what
// may stand any number of times is spelled out. An "open" statement is one
// whose last ; is missing, as } comes next. Names that end with P are those
// of the list of a print, with J those of what may be joined. What stands on
// the left of no -> is a token.
const grammar = `
program -> | program definition | program rule
definition -> function fname ( params ) block
fname -> NAME | CALL
params -> | paramlist
paramlist -> param | paramlist , param
param -> NAME | NAME [ ]
rule -> BEGIN block | END block | block | conditions block | conditions ;
conditions -> expr | expr , expr
block -> { statements } | { statements open }
statements -> | statements statement
statement -> block | ; | if ( expr ) statement | if ( expr ) statement else statement | loop statement | simple ;
open -> if ( expr ) open | if ( expr ) statement else open | loop open | simple
loop -> while ( expr ) | for ( NAME in NAME ) | for ( maybe ; maybe ; maybe )
maybe -> | expr
simple -> expr | print | print listP | print > joined | print listP > joined | next | break | continue
simple -> exit maybe | return maybe | delete NAME | delete NAME [ list ]
list -> expr | list , expr
expr -> either | either ? expr : expr | place store expr
store -> = | += | -= | *= | /= | %=
place -> NAME | NAME [ list ] | $ primary | ( place )
either -> both | either || both
both -> matched | both && matched
matched -> compared | compared tilde compared | matchedIn
matchedIn -> matched in NAME
tilde -> ~ | !~
compared -> comparedP | joined > joined
listP -> exprP | listP , exprP
exprP -> eitherP | eitherP ? exprP : exprP | place store exprP
eitherP -> bothP | eitherP || bothP
bothP -> matchedP | bothP && matchedP
matchedP -> comparedP | comparedP tilde comparedP | matchedInP
matchedInP -> matchedP in NAME
comparedP -> joined | joined compare joined
compare -> < | <= | == | != | >=
joined -> sum | joined sumJ
sum -> product | sum add product
sumJ -> productJ | sumJ add product
add -> + | -
product -> unary | product multiply unary
productJ -> primaryJ | productJ multiply unary
multiply -> * | / | %
unary -> before unary | primary
before -> ! | - | +
primary -> primaryJ | PATTERN
primaryJ -> NUMBER | STRING | NAME | NAME [ list ] | $ primary | ( expr ) | CALL ( args ) | OWN ( args )
args -> | list
`

// A production is one way to make what stands on its left.
type production struct {
	left  string
	right []string
}

// An item is a production that has been gone through up to a dot, begun
// behind that many tokens.
type item struct {
	rule, dot, begun int
}

// A table goes through the tokens of a text and holds all the ways in which
// they can be read so far: a second way to tell where a text is no program.
type table struct {
	rules    []production
	ways     map[string][]int // the productions of what stands on a left
	tokens   []string         // all tokens of the grammar
	sets     [][]item
	canBe    map[string]bool // empty
	accepted bool
}

func newTable() *table {
	t := &table{ways: map[string][]int{}, canBe: map[string]bool{}}
	for line := range strings.Lines(strings.TrimSpace(grammar)) {
		left, right, _ := strings.Cut(line, "->")
		left = strings.TrimSpace(left)
		for way := range strings.SplitSeq(right, " | ") {
			t.ways[left] = append(t.ways[left], len(t.rules))
			t.rules = append(t.rules, production{left, strings.Fields(way)})
			if len(strings.Fields(way)) == 0 {
				t.canBe[left] = true
			}
		}
	}
	for _, p := range t.rules {
		for _, symbol := range p.right {
			if t.ways[symbol] == nil && !slices.Contains(t.tokens, symbol) {
				t.tokens = append(t.tokens, symbol)
			}
		}
	}
	return t
}

// start begins a new text.
func (t *table) start() {
	var first []item
	for _, way := range t.ways["program"] {
		first = append(first, item{way, 0, 0})
	}
	t.sets = nil
	t.close(first)
}

// close puts to the items all that follow from them without a token more.
func (t *table) close(items []item) {
	seen := map[item]bool{}
	now := len(t.sets)
	t.accepted = false
	var set []item
	add := func(i item) {
		if !seen[i] {
			seen[i] = true
			set = append(set, i)
		}
	}
	for _, i := range items {
		add(i)
	}
	for n := 0; n < len(set); n++ {
		i := set[n]
		right := t.rules[i.rule].right
		if i.dot < len(right) {
			for _, way := range t.ways[right[i.dot]] {
				add(item{way, 0, now})
			}
			if t.canBe[right[i.dot]] {
				add(item{i.rule, i.dot + 1, i.begun})
			}
			continue
		}
		left := t.rules[i.rule].left
		t.accepted = t.accepted || left == "program" && i.begun == 0
		from := set
		if i.begun < now {
			from = t.sets[i.begun]
		}
		for _, before := range from {
			if b := t.rules[before.rule].right; before.dot < len(b) && b[before.dot] == left {
				add(item{before.rule, before.dot + 1, before.begun})
			}
		}
	}
	t.sets = append(t.sets, set)
}

// next answers the tokens with which a program can go on.
func (t *table) next() []string {
	var next []string
	for _, i := range t.sets[len(t.sets)-1] {
		right := t.rules[i.rule].right
		if i.dot < len(right) && t.ways[right[i.dot]] == nil && !slices.Contains(next, right[i.dot]) {
			next = append(next, right[i.dot])
		}
	}
	return next
}

// take goes past a token with which a program can go on.
func (t *table) take(token string) {
	var moved []item
	for _, i := range t.sets[len(t.sets)-1] {
		if right := t.rules[i.rule].right; i.dot < len(right) && right[i.dot] == token {
			moved = append(moved, item{i.rule, i.dot + 1, i.begun})
		}
	}
	t.close(moved)
}

// spelled answers how a token is spelled.
func spelled(r *rand.Rand, token string) string {
	switch token {
	case "NUMBER":
		return "1"
	case "STRING":
		return `"s"`
	case "PATTERN":
		return "/p/"
	case "NAME":
		return []string{"x", "y_", "A1"}[r.Intn(3)]
	case "CALL":
		return "f"
	case "OWN":
		return []string{"length", "split", "sub"}[r.Intn(3)]
	}
	return token
}

// couldStand tells whether a token behind the last one would be read as
// itself: a / that divides and one that begins a pattern stand not in the
// same places.
func couldStand(last, token string) bool {
	divides := slices.Contains([]string{"NUMBER", "STRING", "PATTERN", "NAME", ")", "]"}, last)
	switch token {
	case "PATTERN":
		return !divides
	case "/", "/=":
		return divides
	}
	return true
}

// chooseToken takes mostly one with which a program can go on.
func chooseToken(r *rand.Rand, t *table, last string) string {
	for {
		from := t.tokens
		if r.Intn(25) > 0 {
			from = t.next()
		}
		if token := from[r.Intn(len(from))]; couldStand(last, token) {
			return token
		}
	}
}

// chooseToEnd takes one with which a program comes soon to its end.
func chooseToEnd(t *table) string {
	next := t.next()
	for _, token := range []string{")", "]", "}", ":", ";", "NUMBER", "NAME", "(", "{"} {
		if slices.Contains(next, token) {
			return token
		}
	}
	return next[0]
}

// checkOneText holds one text made at random against the grammar, and tells
// whether it is a program.
func checkOneText(t *testing.T, r *rand.Rand, table *table) bool {
	table.start()
	text, last := "", ""
	free, ends := r.Intn(40), r.Intn(2) == 0
	for n := 0; n < free || ends && !table.accepted || last == "CALL"; n++ {
		token := "("
		if last != "CALL" {
			text += []string{" ", " ", "\n", "\t # /(\n"}[r.Intn(4)]
			token = chooseToEnd(table)
			if n < free {
				token = chooseToken(r, table, last)
			}
		}
		place := len(text)
		text += spelled(r, token)
		if !slices.Contains(table.next(), token) {
			if token == "CALL" {
				text += "("
			}
			checkForm(t, text+[]string{"", " ", " }", " @", " ; { } \""}[r.Intn(5)], place)
			return false
		}
		table.take(token)
		last = token
	}
	text += []string{"", " ", "\n#"}[r.Intn(3)]
	if !table.accepted {
		checkForm(t, text, len(text))
		return false
	}
	if written, e, at := glean.Print(text); e == glean.ErrForm {
		t.Errorf("P7: Print(%q) = %q, %d, %d, but it is a program", text, written, e, at)
	}
	return true
}

func checkForm(t *testing.T, text string, place int) {
	t.Helper()
	if len(text) > maxProgram {
		return
	}
	if written, e, at := glean.Print(text); written != "" || e != glean.ErrForm || at != place {
		t.Errorf("P7: Print(%q) = %q, %d, %d, want the error 2 at %d", text, written, e, at, place)
	}
}

func TestP7AnyTextByTheGrammar(t *testing.T) {
	r := rand.New(rand.NewSource(7))
	table := newTable()
	if len(table.tokens) != 54 {
		t.Fatalf("the grammar has %d tokens: %q", len(table.tokens), table.tokens)
	}
	programs := 0
	for range 8000 {
		if checkOneText(t, r, table) {
			programs++
		}
		if t.Failed() {
			return
		}
	}
	if programs < 1000 || programs > 4000 {
		t.Errorf("%d of the texts were programs", programs)
	}
}
