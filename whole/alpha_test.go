package whole

import (
	"fmt"
	"math/rand"
	"reflect"
	"slices"
	"strconv"
	"strings"
	"testing"

	"ravel/alpha"
	"ravel/api"
	"ravel/calls"
	"ravel/chans"
	"ravel/check"
	"ravel/code"
	"ravel/consts"
	"ravel/defs"
	"ravel/effects"
	"ravel/flow"
	"ravel/fold"
	"ravel/kinds"
	"ravel/lex"
	"ravel/nils"
	"ravel/points"
	"ravel/races"
	"ravel/run"
	"ravel/share"
	"ravel/syntax"
	"ravel/tries"
	"ravel/types"
)

// scopes writes programs with many variables within one another, by chance. What begins with an a is a number, what begins with a p takes one, and gives one: so most of them may be called as others are.
type scopes struct {
	*rand.Rand
	left  int      // how much more is to be written
	sight []string // names that can be used
	block []string // those that this block has
}

func (s *scopes) one(texts ...string) string { return texts[s.Intn(len(texts))] }

// use writes a name with this letter first.
func (s *scopes) use(letter string) string {
	var names []string
	for _, name := range s.sight {
		if strings.HasPrefix(name, letter) {
			names = append(names, name)
		}
	}
	if len(names) == 0 {
		return map[string]string{"a": "1", "p": "p9"}[letter]
	}
	return s.one(names...)
}

// name answers one for a new variable.
func (s *scopes) name(letter string) string {
	return letter + strconv.Itoa(s.Intn(4)+map[string]int{"a": 0, "p": 6}[letter])
}

// within writes a block in which there are more names than behind it.
func (s *scopes) within(write func() string, names ...string) string {
	sight, block := s.sight, s.block
	s.sight, s.block = slices.Concat(sight, names), nil
	text := "{ " + write() + "}"
	s.sight, s.block = sight, block
	return text
}

// rows writes what is in such a block: for a case's.
func (s *scopes) rows(write func() string, names ...string) string {
	return strings.Trim(s.within(write, names...), "{}")
}

func (s *scopes) num(deep int) string {
	if deep > 0 {
		switch s.Intn(5) {
		case 0:
			return "(" + s.num(deep-1) + s.one(" + ", " - ", " * ") + s.num(deep-1) + ")"
		case 1:
			return s.taker(deep-1) + "(" + s.num(deep-1) + ")"
		}
	}
	return s.one(s.use("a"), s.use("a"), s.use("a"), strconv.Itoa(s.Intn(4)))
}

// taker writes what takes a number, and gives one.
func (s *scopes) taker(deep int) string {
	if deep <= 0 || s.left < 0 || s.Intn(3) > 0 {
		return s.use("p")
	}
	param := s.name("a")
	return "func(" + param + " int) int " + s.within(func() string { return s.stmts(deep-1) + "return " + s.num(1) + " " }, param)
}

func (s *scopes) define(deep int) string {
	letter := s.one("a", "a", "p")
	name := s.name(letter)
	if slices.Contains(s.block, name) {
		return "print(" + s.num(deep) + ")"
	}
	value := map[string]func(int) string{"a": s.num, "p": s.taker}[letter](deep)
	s.sight, s.block = append(slices.Clone(s.sight), name), append(slices.Clone(s.block), name)
	return name + " := " + value
}

func (s *scopes) assign(deep int) string {
	if name := s.use("a"); name != "1" {
		return name + " = " + s.num(deep)
	}
	return "print(" + s.num(deep) + ")"
}

func (s *scopes) stmt(deep int) string {
	s.left--
	if deep <= 0 || s.left < 0 {
		return s.one("print("+s.num(1)+")", s.assign(1))
	}
	body := func() string { return s.stmts(deep - 1) }
	switch s.Intn(9) {
	case 0, 1, 2:
		return s.define(deep)
	case 3:
		return s.assign(deep)
	case 4:
		return "if " + s.num(1) + " < " + s.num(1) + " " + s.within(body) + s.one("", " else "+s.within(body))
	case 5:
		return "for " + s.num(1) + " < 2 " + s.within(func() string { return body() + s.assign(1) + "; " + s.one("", "break; ") })
	case 6:
		name := s.name("a")
		first := s.one("<-c: "+s.rows(body), name+" := <-c: "+s.rows(body, name))
		return "select { case " + first + "case c <- " + s.num(1) + ": " + s.rows(body) + "}"
	case 7:
		param := s.name("a")
		return "go func(" + param + " int) " + s.within(body, param) + "(" + s.num(1) + ")"
	}
	return "print(" + s.num(2) + ")"
}

func (s *scopes) stmts(deep int) string {
	text := ""
	for range 1 + s.Intn(3) {
		text += s.stmt(deep) + "; "
	}
	return text
}

// scopesMade answers such a program that may be.
func scopesMade(r *rand.Rand) string {
	for {
		s := &scopes{Rand: r, left: 30 + r.Intn(30), sight: []string{"p8", "p9"}}
		text := "type I interface { m(a1 int) int }\ntype A struct { a1 int }\n"
		for _, name := range []string{"p8", "p9"} {
			param := s.name("a")
			text += "func " + name + "(" + param + " int) int " + s.within(func() string { return "c := make(chan int, 2); " + s.stmts(2) + "return " + s.num(1) + " " }, param) + "\n"
		}
		own, param := s.name("a"), s.name("a")
		if own != param {
			text += "func (" + own + " *A) m(" + param + " int) int " + s.within(func() string { return "return " + s.num(1) + " + " + own + ".a1 " }, param) + "\n"
		}
		text += "func main() " + s.within(func() string {
			return "c := make(chan int, 2); a0 := 0; a1 := 1; " + s.stmts(4) + s.stmts(4) + s.stmts(4) + s.stmts(3)
		}, "a0", "a1")
		// Now and then a name is taken where something else has it.
		if _, fault := check.Check(text); fault == (api.Fault{}) {
			return text
		}
	}
}

// This is a second way to call variables otherwise: names are exchanged in the text itself, token by token.

// labels has a text's tokens, and by bytes the number of the variable whose name stands there.
type labels struct {
	text   string
	tokens []api.Token
	of     map[int]int
	count  int // how many variables there are
	names  int // how many bytes are names of them, but their own
}

// newLabels answers those of a program that may be.
func newLabels(text string) labels {
	again, _ := newAgain(text)
	tokens, _ := lex.Scan(text)
	l := labels{text: text, tokens: tokens, of: map[int]int{}}
	numbers := map[int]int{} // by nodes
	for number, n := range again.nodes {
		place := l.ownPlace(n)
		if n.Kind == api.KParam && again.kind(again.parent[again.parent[number]]) == api.KMethodSig {
			place = -1
		}
		if place >= 0 {
			numbers[number], l.of[place] = l.count, l.count
			l.count++
		}
	}
	for number, n := range again.nodes {
		if n.Kind != api.KName {
			continue
		}
		if variable, is := numbers[again.user(number)]; is {
			l.of[n.At] = variable
			l.names++
		}
	}
	return l
}

// ownPlace answers the byte where the name of what can be a variable stands, or -1.
func (l labels) ownPlace(n api.Node) int {
	switch n.Kind {
	case api.KDefine, api.KParam:
		return n.At
	case api.KCaseRecv:
		at := slices.IndexFunc(l.tokens, func(t api.Token) bool { return t.At == n.At })
		if name := l.tokens[at+1]; name.Kind == api.TokName && l.tokens[at+2].Text == ":=" {
			return name.At
		}
	}
	return -1
}

// with writes the text with other names: a variable's number is handed over, or -1 with a name of something else.
func (l labels) with(name func(variable int, old string) string) string {
	text, end := "", 0
	for _, token := range l.tokens {
		if token.Kind != api.TokName {
			continue
		}
		variable, is := l.of[token.At]
		if !is {
			variable = -1
		}
		text += l.text[end:token.At] + name(variable, token.Text)
		end = token.At + len(token.Text)
	}
	return text + l.text[end:]
}

// called writes the text with variables that are called by their numbers.
func (l labels) called(ahead string) string {
	return l.with(func(variable int, old string) string {
		if variable < 0 {
			return old
		}
		return ahead + strconv.Itoa(variable)
	})
}

// ahead answers one `_` more than any name begins with.
func (l labels) ahead() string {
	ahead := "_"
	for _, token := range l.tokens {
		for strings.HasPrefix(token.Text, ahead) {
			ahead += "_"
		}
	}
	return ahead
}

// printedLabels answers those of the printed text, and whether it can be read.
func printedLabels(text string) (labels, bool) {
	printed, _ := syntax.Print(text)
	if _, fault := check.Check(printed); fault.Code != api.OK {
		return labels{}, false
	}
	return newLabels(printed), true
}

// asked answers who tells as a text what a face says.
func asked[T any](face func(string) (T, api.Fault)) func(string) string {
	return func(text string) string {
		told, fault := face(text)
		return fmt.Sprint(told, fault)
	}
}

// tellers are those who tell something of a program's nodes.
var tellers = []func(string) string{
	asked(types.Texts), asked(check.Check), asked(check.Uses),
	asked(flow.Edges), asked(flow.Reached), asked(flow.Over), asked(flow.Rounds),
	asked(defs.Shared), asked(defs.Comes), asked(defs.Needed), asked(defs.Idle),
	asked(points.Sets), asked(points.Fields), asked(calls.Calls), asked(calls.Met), asked(calls.Rings),
	asked(kinds.Types), asked(kinds.Asserts), asked(consts.Values), asked(consts.Goes),
	asked(effects.Of), asked(effects.Quiet), asked(code.Make), asked(share.Sites), asked(share.Keeps),
	asked(chans.Ends), asked(chans.Never), asked(nils.Can), asked(nils.Falls),
}

// holdText holds what a program becomes, if its variables are called otherwise, against the second way; and that it may be, unless it is too long. It answers what comes out; nothing, if that may not be.
func holdText(t *testing.T, text string, counts map[string]int) string {
	t.Helper()
	got, fault := alpha.Text(text)
	if _, want := check.Check(text); fault != want || fault.Code != api.OK && got != "" {
		t.Fatalf("%v, not %v, and %q of\n%s", fault, want, got, text)
	}
	if fault.Code != api.OK {
		return ""
	}
	if l, is := printedLabels(text); is {
		counts["held"]++
		counts["variables"] += l.count
		counts["names"] += l.names
		if want := l.called(l.ahead()); got != want {
			t.Fatalf("\n%s, not\n%s of\n%s", got, want, text)
		}
	}
	if _, fault := check.Check(got); fault.Code != api.OK {
		counts["too long"]++
		if fault.Code != api.ErrSize || len(got) <= api.MaxText {
			t.Fatalf("%v of\n%s of\n%s", fault, got, text)
		}
		return ""
	}
	if printed, _ := syntax.Print(got); got != printed {
		t.Fatalf("\n%s is printed as\n%s", got, printed)
	}
	if is, fault := alpha.Same(got, text); !is || fault.Code != api.OK {
		t.Fatalf("%v, %v of\n%s and\n%s", is, fault, got, text)
	}
	return got
}

// holdAlike holds that a program with other names has the same nodes as the first one, and runs just the same, by a script; it answers how.
func holdAlike(t *testing.T, text, other string, script []int) int {
	t.Helper()
	first, _ := syntax.Parse(text)
	second, _ := syntax.Parse(other)
	if len(first) != len(second) {
		t.Fatalf("%d nodes, not %d, of\n%s", len(second), len(first), text)
	}
	for number, n := range second {
		n.At = first[number].At
		if slices.Contains([]int{api.KDefine, api.KCaseRecv, api.KParam, api.KName}, n.Kind) {
			n.Text = first[number].Text
		}
		if !reflect.DeepEqual(n, first[number]) {
			t.Fatalf("%d is %v, not %v, of\n%s", number, n, first[number], text)
		}
	}
	trace, one := run.Run(text, script)
	again, two := run.Run(other, script)
	if one.Code+two.Code != api.OK || !reflect.DeepEqual(trace, again) {
		t.Fatalf("%v: %v, %v: %v, not %v of\n%s", script, one, two, again, trace, text)
	}
	return trace.Status
}

// holdTold holds that all that is told of a program is told of it with other names, too.
func holdTold(t *testing.T, text, other string, script []int) {
	t.Helper()
	for place, tell := range tellers {
		if want, got := tell(text), tell(other); got != want {
			t.Fatalf("by %d:\n%s, not\n%s of\n%s", place, got, want, text)
		}
	}
	racing, _ := races.Find(text, script)
	if again, _ := races.Find(other, script); !reflect.DeepEqual(racing, again) {
		t.Fatalf("%v, not %v race in\n%s", again, racing, text)
	}
	// Folded, names are left as they were.
	folded, _ := fold.Fold(text)
	less, _ := fold.Fold(other)
	if is, fault := alpha.Same(folded, less); !is && !isOfSize(fault.Code) {
		t.Fatalf("%v:\n%s and\n%s of\n%s", fault, folded, less, text)
	}
}

// holdPair holds whether two programs are the same against the second way, in which names are such as no program has. It answers what is said, and whether both may be.
func holdPair(t *testing.T, a, b string) (is, both bool) {
	t.Helper()
	is, fault := alpha.Same(a, b)
	turned, other := alpha.Same(b, a)
	_, first := check.Check(a)
	_, second := check.Check(b)
	want := first
	if first.Code == api.OK {
		want = second
	} else if second.Code == api.OK {
		second = first
	}
	if fault != want || other != second || is != turned || fault.Code != api.OK && is {
		t.Fatalf("%v, %v, not %v; %v, %v, not %v of\n%s and\n%s", is, fault, want, turned, other, second, a, b)
	}
	if fault.Code != api.OK {
		return false, false
	}
	left, canLeft := printedLabels(a)
	right, canRight := printedLabels(b)
	if canLeft && canRight && is != (left.called("$") == right.called("$")) {
		t.Fatalf("%v of\n%s and\n%s", is, a, b)
	}
	return is, true
}

// masked lets a name, of whatever it is, begin with `_`, wherever it stands.
func masked(r *rand.Rand, text string) string {
	l := newLabels(text)
	var names []string
	for _, token := range l.tokens {
		if token.Kind == api.TokName && token.Text != "main" {
			names = append(names, token.Text)
		}
	}
	if len(names) == 0 {
		return text
	}
	name, mask := names[r.Intn(len(names))], strings.Repeat("_", 1+r.Intn(3))
	if r.Intn(8) == 0 {
		mask = strings.Repeat("_", 60)
	}
	end := []string{name, name, "", "0", "1"}[r.Intn(5)]
	other := l.with(func(_ int, old string) string {
		if old == name {
			return mask + end
		}
		return old
	})
	if _, fault := check.Check(other); fault.Code != api.OK {
		return text
	}
	return other
}

// redressed calls variables otherwise, by chance: each by a name of its own, or as it was, but for some, that are called as others with the same letter first are.
func redressed(r *rand.Rand, text string) string {
	l := newLabels(text)
	kin := map[byte][]string{} // by first letters
	for _, token := range l.tokens {
		if token.Kind == api.TokName {
			kin[token.Text[0]] = append(kin[token.Text[0]], token.Text)
		}
	}
	few := []int{0, 3, 9}[r.Intn(3)]
	keep := few > 0 && r.Intn(3) > 0
	fresh := r.Perm(l.count)
	names := map[int]string{}
	return l.with(func(variable int, old string) string {
		if variable < 0 {
			return old
		}
		if names[variable] == "" {
			names[variable] = strings.Repeat("_", r.Intn(2)) + "n" + strconv.Itoa(fresh[variable])
			if keep {
				names[variable] = old
			}
			if like := kin[old[0]]; few > 0 && r.Intn(few) == 0 {
				names[variable] = like[r.Intn(len(like))]
			}
		}
		return names[variable]
	})
}

// rebound lets one name be that of another variable.
func rebound(r *rand.Rand, text string) string {
	l := newLabels(text)
	var places []api.Token
	for _, token := range l.tokens {
		if _, is := l.of[token.At]; is && token.Kind == api.TokName {
			places = append(places, token)
		}
	}
	if len(places) == 0 {
		return text
	}
	place, other := places[r.Intn(len(places))], places[r.Intn(len(places))]
	return text[:place.At] + other.Text + text[place.At+len(place.Text):]
}

// TestAlphaAgain holds what made programs become against the second way, what is told of it against what is told of them, and their runs; and whether they are the same as others.
func TestAlphaAgain(t *testing.T) {
	r := rand.New(rand.NewSource(46))
	counts, ends := map[string]int{}, map[int]int{}
	says := map[string]map[string]int{"redressed": {}, "rebound": {}, "spoilt": {}}
	makers := []func(*rand.Rand) string{made, livelyMade, sureMade, setterMade, roundMade, racyMade, thingsMade, deedsMade, chainMade, boxesMade, giftsMade, meetsMade, voidsMade}
	for round := range 600 {
		text := scopesMade(r)
		if round%2 == 0 {
			text = makers[r.Intn(len(makers))](r)
		}
		for range r.Intn(4) {
			text = masked(r, text)
		}
		other := holdText(t, text, counts)
		if other == "" {
			continue
		}
		for range 2 {
			ends[holdAlike(t, text, other, scriptOf(r))]++
		}
		if round%3 == 0 {
			holdTold(t, text, other, scriptOf(r))
		}
		for _, pair := range []struct{ by, text string }{{"redressed", redressed(r, text)}, {"redressed", redressed(r, other)}, {"rebound", rebound(r, text)}, {"spoilt", spoilt(r, text)}} {
			holdText(t, pair.text, map[string]int{})
			is, both := holdPair(t, text, pair.text)
			switch {
			case !both:
				says[pair.by]["may not be"]++
			case is:
				says[pair.by]["same"]++
				holdAlike(t, text, pair.text, scriptOf(r))
			default:
				says[pair.by]["not same"]++
			}
		}
	}
	if counts["held"] < 550 || counts["variables"] < 8000 || counts["names"] < 20000 || counts["too long"] < 20 {
		t.Error("too few are held against the second way, too few variables, names, texts that are too long:", counts)
	}
	for status := api.Done; status <= api.Out; status++ {
		if ends[status] < 50 {
			t.Error("too few runs end so:", status, ends[status])
		}
	}
	for by, said := range says {
		if said["same"] < 20 || said["not same"] < 50 || said["may not be"] < 50 {
			t.Error("too few are the same, are not, may not be:", by, said)
		}
	}
}

// TestAlphaTries: all that can come is the same with other names.
func TestAlphaTries(t *testing.T) {
	r := rand.New(rand.NewSource(47))
	tell := asked(tries.All)
	for range 30 {
		text := fewMade(r)
		if other := holdText(t, text, map[string]int{}); other != "" && tell(other) != tell(text) {
			t.Fatalf("%s, not %s of\n%s", tell(other), tell(text), text)
		}
	}
}

// FuzzAlpha holds any two texts against the second way, and a run.
func FuzzAlpha(f *testing.F) {
	r := rand.New(rand.NewSource(48))
	for range 20 {
		text := scopesMade(r)
		f.Add(text, redressed(r, text), []byte{1, 2, 3})
		text = masked(r, livelyMade(r))
		f.Add(text, rebound(r, text), []byte{1, 0, 4, 2, 1, 1})
	}
	f.Fuzz(func(t *testing.T, text, second string, picks []byte) {
		holdPair(t, text, second)
		other := holdText(t, text, map[string]int{})
		if other == "" {
			return
		}
		var script []int
		for _, pick := range picks {
			script = append(script, int(int8(pick)))
		}
		holdAlike(t, text, other, script)
	})
}
