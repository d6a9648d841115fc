package syntax

import (
	"slices"

	"ravel/api"
)

// What a parser gives up with; Parse tells them apart.
type (
	misplaced struct{ at int } // a token that cannot stand there
	tooDeep   struct{ at int } // a token that opens too many things within one another
	tooMany   struct{ at int } // more nodes than there may be
)

// parser goes through the tokens of a text from the left, and never back: so the first token that it refuses is the first one that cannot stand there.
type parser struct {
	tokens []api.Token
	at     int // the number of the next token
	end    int // the text's length
	deep   int // how many things are open
	nodes  []api.Node
}

// look answers the token so many places behind the next one; where there is none, one of no kind at the text's end.
func (p *parser) look(ahead int) api.Token {
	if p.at+ahead < len(p.tokens) {
		return p.tokens[p.at+ahead]
	}
	return api.Token{At: p.end}
}

// is tells whether the next token is one of these words and signs. (No name and no number has the text of one.)
func (p *parser) is(words ...string) bool {
	return slices.Contains(words, p.look(0).Text)
}

func (p *parser) isKind(kind int) bool {
	return p.look(0).Kind == kind
}

func (p *parser) refuse() {
	panic(misplaced{p.look(0).At})
}

func (p *parser) next() api.Token {
	t := p.look(0)
	p.at++
	return t
}

// want takes the next token, which has to be one of these words and signs.
func (p *parser) want(words ...string) api.Token {
	if !p.is(words...) {
		p.refuse()
	}
	return p.next()
}

// wantKind takes the next token, which has to be a name, or a number.
func (p *parser) wantKind(kind int) api.Token {
	if !p.isKind(kind) {
		p.refuse()
	}
	return p.next()
}

func (p *parser) wantName() string {
	return p.wantKind(api.TokName).Text
}

// open takes a token, as want does, that opens something; leave, or shut, ends that.
func (p *parser) open(words ...string) api.Token {
	t := p.want(words...)
	if p.deep == api.MaxNest {
		panic(tooDeep{t.At})
	}
	p.deep++
	return t
}

func (p *parser) leave() {
	p.deep--
}

func (p *parser) shut(word string) {
	p.want(word)
	p.leave()
}

// put adds a node, which keeps the list of its kids, and answers its number.
func (p *parser) put(n api.Node, kids ...int) int {
	n.Kids = kids
	p.nodes = append(p.nodes, n)
	return len(p.nodes) - 1
}

// listed reads "(", any number of items with a comma between each two, ")".
func (p *parser) listed(item func() int) []int {
	var kids []int
	p.open("(")
	for !p.is(")") {
		if len(kids) > 0 {
			p.want(",")
		}
		kids = append(kids, item())
	}
	p.shut(")")
	return kids
}

// rows reads items, a ";" behind each, up to one of these words, which is left. Ahead of a "}" the ";" may be left out.
func (p *parser) rows(item func() int, ends ...string) []int {
	var kids []int
	for !p.is(ends...) {
		kids = append(kids, item())
		if !p.is("}") {
			p.want(";")
		}
	}
	return kids
}

// braced reads "{", items as rows does, "}"; it answers where the "{" stands, too.
func (p *parser) braced(item func() int) (at int, kids []int) {
	at = p.open("{").At
	kids = p.rows(item, "}")
	p.shut("}")
	return at, kids
}
