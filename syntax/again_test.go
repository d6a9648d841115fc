package syntax

import (
	"math/rand"
	"strings"
	"testing"

	"ravel/api"
	"ravel/lex"
)

// form is the chapter's form of a program, a rule a line, with that left out which may be: what Parse's faults are held against. Words in quotes are tokens; "name" and "number" without are, too.
// An expression right behind a "case" does not begin with "<-" (else it would be a case that receives): there the rules that end in 1 stand.
const form = `
program  = [ decl { ";" decl } [ ";" ] ]
decl     = "type" name "struct" "{" [ field { ";" field } [ ";" ] ] "}" | "type" name "interface" "{" [ method { ";" method } [ ";" ] ] "}" | "func" name sig block | "func" "(" name "*" name ")" name sig block
field    = name type
method   = name sig
sig      = "(" [ name type { "," name type } ] ")" [ type ]
type     = "int" | "bool" | name | "*" name | channel | "func" "(" [ type { "," type } ] ")" [ type ]
channel  = "chan" type
block    = "{" [ stmt { ";" stmt } [ ";" ] ] "}"
stmt     = name ":=" expr | expr "=" expr | expr "<-" expr | expr | "go" expr | "close" "(" expr ")" | "panic" "(" expr ")" | "print" "(" expr ")" | if | "for" expr block | "return" [ expr ] | "break" | "select" "{" cases "}"
if       = "if" expr block [ "else" block | "else" if ]
cases    = { case { stmt ";" } } [ case { stmt ";" } stmt ]
case     = "case" [ name ":=" ] "<-" expr ":" | "case" expr1 "<-" expr ":" | "default" ":"
expr     = both { "||" both }
both     = held { "&&" held }
held     = sum { compare sum }
compare  = "==" | "!=" | "<" | "<=" | ">" | ">="
sum      = product { plus product }
plus     = "+" | "-"
product  = one { times one }
times    = "*" | "/" | "%"
one      = "!" one | "-" one | "<-" one | part
expr1    = both1 { "||" both }
both1    = held1 { "&&" held }
held1    = sum1 { compare sum }
sum1     = product1 { plus product }
product1 = one1 { times one }
one1     = "!" one | "-" one | part
part     = first { "." name | "." "(" type ")" | "(" [ expr { "," expr } ] ")" }
first    = number | "true" | "false" | "nil" | name | "(" expr ")" | "func" sig block | "new" "(" name ")" | "make" "(" channel [ "," number ] ")"
`

// rules of a form, by name: each has ways, each way is a row of names of rules and of tokens (these begin with ").
type rules map[string][][]string

func readForm() rules {
	r := rules{}
	for line := range strings.SplitSeq(strings.TrimSpace(form), "\n") {
		words := strings.Fields(line)
		rest := words[2:]
		r[words[0]] = r.ways(words[0], &rest, "")
	}
	return r
}

// ways reads up to the end, or to the bracket that shuts; brackets become rules of their own.
func (r rules) ways(name string, rest *[]string, shut string) [][]string {
	out := [][]string{{}}
	for len(*rest) > 0 {
		word := (*rest)[0]
		*rest = (*rest)[1:]
		last := len(out) - 1
		switch word {
		case shut:
			return out
		case "|":
			out = append(out, []string{})
		case "[":
			inner := name + "'" + string(rune('a'+len(r)%26)) + strings.Repeat("'", len(r)/26)
			r[inner] = nil
			r[inner] = append(r.ways(inner, rest, "]"), []string{})
			out[last] = append(out[last], inner)
		case "{":
			inner := name + "'" + string(rune('a'+len(r)%26)) + strings.Repeat("'", len(r)/26)
			r[inner] = nil
			ways := r.ways(inner, rest, "}")
			for i := range ways {
				ways[i] = append(ways[i], inner)
			}
			r[inner] = append(ways, []string{})
			out[last] = append(out[last], inner)
		case "name", "number":
			out[last] = append(out[last], `"`+word)
		default:
			out[last] = append(out[last], strings.TrimSuffix(word, `"`))
		}
	}
	return out
}

// item is a way of a rule, how far it is read, and behind which token it began.
type item struct {
	rule      string
	way, done int
	from      int
}

// again tells where a row of tokens stops being the beginning of a program (by all ways at once, after Earley): the number of the first token that cannot stand; the row's length, if it ends too early; -1, if nothing is wrong.
func (r rules) again(tokens []string) int {
	sets := []map[item]bool{{}}
	var order [][]item
	add := func(at int, x item) {
		for len(sets) <= at {
			sets = append(sets, map[item]bool{})
		}
		for len(order) <= at {
			order = append(order, nil)
		}
		if !sets[at][x] {
			sets[at][x] = true
			order[at] = append(order[at], x)
		}
	}
	for way := range r["program"] {
		add(0, item{"program", way, 0, 0})
	}
	for at := 0; ; at++ {
		if at == len(order) {
			return at - 1
		}
		whole := r.complete(at, &order, add)
		if at == len(tokens) {
			if whole {
				return -1
			}
			return at
		}
		for _, x := range order[at] {
			row := r[x.rule][x.way]
			if x.done < len(row) && row[x.done] == tokens[at] {
				add(at+1, item{x.rule, x.way, x.done + 1, x.from})
			}
		}
	}
}

// complete adds all that follows from a set without reading; it tells whether a whole program ends there.
func (r rules) complete(at int, order *[][]item, add func(int, item)) bool {
	whole := false
	for again := true; again; {
		before := len((*order)[at])
		for i := 0; i < len((*order)[at]); i++ {
			x := (*order)[at][i]
			row := r[x.rule][x.way]
			switch {
			case x.done == len(row):
				whole = whole || x.rule == "program" && x.from == 0
				for k := 0; k < len((*order)[x.from]); k++ {
					y := (*order)[x.from][k]
					if up := r[y.rule][y.way]; y.done < len(up) && up[y.done] == x.rule {
						add(at, item{y.rule, y.way, y.done + 1, y.from})
					}
				}
			case row[x.done][0] != '"':
				for way := range r[row[x.done]] {
					add(at, item{row[x.done], way, 0, at})
				}
			}
		}
		again = len((*order)[at]) > before
	}
	return whole
}

// fault answers what the form says of a text that Scan can cut.
func (r rules) fault(text string) (api.Fault, bool) {
	tokens, fault := lex.Scan(text)
	if fault.Code != api.OK {
		return fault, false
	}
	var row []string
	for _, t := range tokens {
		switch t.Kind {
		case api.TokName:
			row = append(row, `"name`)
		case api.TokNumber:
			row = append(row, `"number`)
		default:
			row = append(row, `"`+t.Text)
		}
	}
	switch at := r.again(row); {
	case at < 0:
		return api.Fault{}, true
	case at == len(tokens):
		return api.Fault{Code: api.ErrSyntax, At: len(text)}, true
	default:
		return api.Fault{Code: api.ErrSyntax, At: tokens[at].At}, true
	}
}

// pieces are what texts that are none are made of.
var pieces = strings.Fields("func type struct interface if else for return break select case default go close panic print new make chan int bool nil true false " +
	"<- == != <= >= && || := ( ) { } . , ; : * + - / % < > = ! x y 0 7")

// seeds are programs with all of the form in them.
var seeds = []string{
	"type A struct { a int ; b * A ; } ; type I interface { m ( ) ; n ( a int , b I ) func ( int , * A ) chan bool ; } ;",
	"func f ( a int , b bool ) chan int { x := 1 ; x = y . z ; c <- - 1 ; g ( 1 , 2 ) ; return x ; break } ;",
	"func ( a * A ) m ( ) { if a == b { x } else if ! c { } else { y } ; for a < b && c || d { break } ; return }",
	"func f ( ) { select { case x := <- c : x ; y ; case <- d : case a + b <- 1 : z ; default : w } ; go f ( ) ; close ( c ) ; panic ( 1 ) ; print ( x ) }",
	"func f ( ) { x . ( * A ) . y ( func ( a int ) int { return a } , new ( A ) , make ( chan chan int , 3 ) , ( 1 + 2 ) * 3 % <- c , nil , true ) }",
}

// spoil changes a row of pieces in a few places.
func spoil(row []string, r *rand.Rand) []string {
	out := append([]string(nil), row...)
	for n := r.Intn(3); n >= 0 && len(out) > 0; n-- {
		at := r.Intn(len(out))
		switch r.Intn(5) {
		case 0:
			out = append(out[:at:at], out[at+1:]...)
		case 1:
			out[at] = pieces[r.Intn(len(pieces))]
		case 2:
			out = append(out[:at:at], append([]string{pieces[r.Intn(len(pieces))]}, out[at:]...)...)
		case 3:
			other := r.Intn(len(out))
			out[at], out[other] = out[other], out[at]
		case 4:
			out = out[:at]
		}
	}
	return out
}

func TestFaultsAgain(t *testing.T) {
	rules := readForm()
	r := rand.New(rand.NewSource(2))
	good := 0
	for i := range 6000 {
		row := strings.Fields(seeds[i%len(seeds)])
		if i >= len(seeds) {
			row = spoil(row, r)
		}
		text := strings.Join(row, " ")
		want, ok := rules.fault(text)
		if !ok {
			t.Fatal(text)
		}
		if _, fault := Parse(text); fault != want {
			t.Errorf("%q: %v, not %v", text, fault, want)
		}
		if want.Code == api.OK {
			good++
		}
	}
	if good < 100 {
		t.Error("too few programs among the texts:", good)
	}
}

// TestNextAgain: behind each beginning of a program, each token can stand or not.
func TestNextAgain(t *testing.T) {
	rules := readForm()
	for _, seed := range seeds {
		row := strings.Fields(seed)
		for i := range row {
			ahead := strings.Join(row[:i], " ")
			for _, piece := range pieces {
				text := ahead + " " + piece
				want, _ := rules.fault(text)
				if _, fault := Parse(text); fault != want {
					t.Errorf("%q: %v, not %v", text, fault, want)
				}
			}
		}
	}
}

func FuzzParse(f *testing.F) {
	rules := readForm()
	for _, seed := range seeds {
		f.Add(seed)
	}
	for _, x := range printed {
		f.Add(x.text)
		f.Add(x.form)
	}
	f.Fuzz(func(t *testing.T, text string) {
		if len(text) > 600 {
			return
		}
		nodes, fault := Parse(text)
		want, _ := rules.fault(text)
		if fault != want && (fault.Code != api.ErrDeep || want.Code == api.ErrSyntax && want.At < fault.At) {
			t.Errorf("%q: %v, not %v", text, fault, want)
		}
		if fault.Code == api.OK {
			holdPrint(t, text, nodes)
		}
	})
}
