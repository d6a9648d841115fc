package whole

import (
	"math/rand"
	"slices"
	"strconv"
	"strings"
	"testing"

	"ravel/api"
	"ravel/chans"
	"ravel/check"
	"ravel/run"
	"ravel/syntax"
)

// meets writes programs whose threads send, take and shut at many channels, by chance. Not all of this is done to each channel, so that there are some at which nobody meets.
type meets struct {
	*rand.Rand
	left int            // how much more is to be written
	uses map[int]string // of each channel what is done to it
}

func (m *meets) one(texts ...string) string { return texts[m.Intn(len(texts))] }

func (m *meets) channel(number int) string { return "c" + strconv.Itoa(number) }

func (m *meets) any() string { return m.channel(m.Intn(len(m.uses))) }

// at writes a channel to which something is done: mostly one to which just this, and what else is its own, is done.
func (m *meets) at(deed string) string {
	if m.Intn(16) == 0 {
		return m.one("a.c", "b.c", "nobody.c", "same("+m.any()+")", m.any())
	}
	for range 20 {
		if number := m.Intn(len(m.uses)); strings.Contains(m.uses[number], deed) {
			return m.channel(number)
		}
	}
	return m.one("a.c", "nobody.c")
}

// halfCase writes a case without its block.
func (m *meets) halfCase() string {
	return "case " + m.one(m.at("send")+" <- 1", m.at("send")+" <- n", "<-"+m.at("take"), "x := <-"+m.at("take")) + ": "
}

func (m *meets) selectOf(deep int) string {
	text := "select { "
	for range 1 + m.Intn(3) {
		text += m.halfCase() + m.one("", "n = n + 1; ", m.stmt(deep-1)+"; ")
	}
	return text + m.one("", "default: ", "default: print(n); ") + "}"
}

// alone writes something that lets a thread wait.
func (m *meets) alone() string {
	return m.one(m.at("send")+" <- 1", m.at("send")+" <- n", "<-"+m.at("take"), "print(<-"+m.at("take")+")", "n = <-"+m.at("take"),
		"give("+m.at("send")+")", "take("+m.at("take")+")", m.at("send")+" <- <-"+m.at("take"))
}

func (m *meets) stmt(deep int) string {
	m.left--
	if deep <= 0 || m.left <= 0 {
		return m.one(m.alone(), "print(n)")
	}
	switch m.Intn(16) {
	case 0, 1, 2:
		return m.selectOf(deep)
	case 3:
		return "close(" + m.at("shut") + ")"
	case 4, 5, 6, 7:
		return "go func() { " + m.stmts(deep-1) + "}()"
	case 8:
		return "go " + m.one("give("+m.at("send")+")", "take("+m.at("take")+")", "b.serve("+m.at("take")+")")
	case 9:
		return "if n < " + m.one("1", "2", "9") + " { " + m.stmts(deep-1) + "}"
	case 10:
		return m.one("a.c = "+m.any(), "b.c = "+m.any(), m.any()+" = "+m.any(), "i = "+m.one("a", "b"), "i.serve("+m.any()+")",
			"select { case e <- "+m.any()+": default: }", "select { case y := <-e: "+m.one("y <- 1", "<-y", "print(n)")+"; default: }")
	}
	return m.alone()
}

func (m *meets) stmts(deep int) string {
	text := ""
	for range 1 + m.Intn(3) {
		text += m.stmt(deep) + "; "
	}
	return text
}

// meetsMade answers such a program that may be.
func meetsMade(r *rand.Rand) string {
	for {
		m := &meets{Rand: r, left: 20 + r.Intn(30), uses: map[int]string{}}
		text := "type A struct { c chan int }\ntype B struct { c chan int }\ntype I interface { serve(c chan int) }\n" +
			"func give(c chan int) { c <- 7 }\nfunc take(c chan int) { print(<-c) }\nfunc same(c chan int) chan int { return c }\n" +
			"func (a *A) serve(c chan int) { " + m.one("", "close(a.c)", "select { case a.c <- 1: default: }") + " }\nfunc (b *B) serve(c chan int) { " + m.one("", "b.c = c", "<-c") + " }\n" +
			"func main() { n := 0; a := new(A); b := new(B); nobody := new(B); e := make(chan chan int, 2); i := box(a); "
		for number := range 5 + r.Intn(5) {
			m.uses[number] = m.one("send take", "send take", "send take shut", "send", "take", "send shut", "take shut", "send shut", "take shut", "shut", "")
			text += m.channel(number) + " := make(chan int" + m.one("", "", ", 1", ", 3") + "); "
		}
		for range 2 + r.Intn(4) {
			text += "go func() { " + m.stmts(2) + "}(); "
		}
		for range 2 + r.Intn(4) {
			text += m.stmts(3)
		}
		text += strings.Repeat("print(0); ", 5) + "nobody.c = nil }\nfunc box(i I) I { return i }\n"
		// Now and then it is too long.
		if _, fault := check.Check(text); fault == (api.Fault{}) {
			return text
		}
	}
}

// This is a second way to tell who can meet: each node that does something to a channel is held against all others.

// sideOf answers what a node does to a channel, or nothing.
func sideOf(kind int) string {
	return map[int]string{api.KSend: "send", api.KCaseSend: "send", api.KRecv: "take", api.KCaseRecv: "take", api.KClose: "shut"}[kind]
}

// helping are the rules by which something can be done.
var helping = []string{"send by room", "send by take", "send by shut", "take by send", "take by shut"}

// chansAgain has what is told of who can meet.
type chansAgain struct {
	ends  []api.Ends
	never []int
}

func (c chansAgain) equal(other chansAgain) bool {
	return slices.Equal(c.never, other.never) && slices.EqualFunc(c.ends, other.ends, func(a, b api.Ends) bool {
		return a.Site == b.Site && slices.Equal(a.Sends, b.Sends) && slices.Equal(a.Takes, b.Takes) && slices.Equal(a.Shuts, b.Shuts)
	})
}

// side answers of a KMake those who can do something to its channels.
func (c chansAgain) side(site int, deed string) []int {
	for _, e := range c.ends {
		if e.Site == site {
			return map[string][]int{"send": e.Sends, "take": e.Takes, "shut": e.Shuts}[deed]
		}
	}
	return nil
}

// meetsAt answers the channels at which a node, and another one, can be.
func (s *spots) meetsAt(number, other int) []int {
	return slices.DeleteFunc(s.at(s.nodes[number].Kids[0]), func(site int) bool { return !s.held[spot{node: s.nodes[other].Kids[0]}][site] })
}

// canDo tells whether who sends or takes can do something, without a rule.
func (s *spots) canDo(number int, without string) bool {
	side := sideOf(s.kind(number))
	if side == "send" && without != "send by room" && slices.ContainsFunc(s.at(s.nodes[number].Kids[0]), func(site int) bool { return s.nodes[site].Num > 0 }) {
		return true
	}
	for other, n := range s.nodes {
		if rule := side + " by " + sideOf(n.Kind); rule != without && slices.Contains(helping, rule) && len(s.meetsAt(number, other)) > 0 {
			return true
		}
	}
	return false
}

func (s *spots) lookNever(without string) []int {
	var out []int
	for number, n := range s.nodes {
		if side := sideOf(n.Kind); (side == "send" || side == "take") && !s.canDo(number, without) {
			out = append(out, number)
		}
	}
	return out
}

func (s *spots) lookChans() chansAgain {
	told := chansAgain{never: s.lookNever("")}
	for site, made := range s.nodes {
		if made.Kind != api.KMake {
			continue
		}
		sides := map[string][]int{}
		for number, n := range s.nodes {
			if side := sideOf(n.Kind); side != "" && s.held[spot{node: n.Kids[0]}][site] {
				sides[side] = append(sides[side], number)
			}
		}
		told.ends = append(told.ends, api.Ends{Site: site, Sends: sides["send"], Takes: sides["take"], Shuts: sides["shut"]})
	}
	return told
}

// chansOf asks the faces; both answer one fault.
func chansOf(t *testing.T, text string) (chansAgain, api.Fault) {
	t.Helper()
	ends, first := chans.Ends(text)
	never, second := chans.Never(text)
	if first != second {
		t.Fatalf("%v, %v of\n%s", first, second, text)
	}
	return chansAgain{ends, never}, first
}

// holdChans holds what is told of who can meet in a text's program against the second way, and against that of the printed text, which has the same nodes.
func holdChans(t *testing.T, text string) (chansAgain, *spots) {
	t.Helper()
	got, fault := chansOf(t, text)
	if _, want := check.Check(text); fault != want {
		t.Fatalf("%v, not %v of\n%s", fault, want, text)
	}
	if fault.Code != api.OK {
		if !got.equal(chansAgain{}) {
			t.Fatalf("%v and %v of\n%s", fault, got, text)
		}
		return got, nil
	}
	spots := newSpots(text)
	if want := spots.lookChans(); !got.equal(want) {
		t.Fatalf("%v, not\n%v of\n%s", got, want, text)
	}
	printed, _ := syntax.Print(text)
	if other, fault := chansOf(t, printed); fault.Code == api.OK && !got.equal(other) {
		t.Fatalf("%v, not\n%v when it is printed, of\n%s", got, other, text)
	}
	return got, spots
}

// holdMeetings holds that in a run who never does anything has no event, and that nothing falls there; and that channels come just to those who are told of them. It answers those who send or take, or fall there, and how often a channel comes to one who never does anything.
func holdMeetings(t *testing.T, text string, script []int, told chansAgain) (did []int, idle int) {
	t.Helper()
	trace, _ := run.Run(text, script)
	nodes, _ := syntax.Parse(text)
	for _, e := range trace.Events {
		if e.Kind == api.EvSend || e.Kind == api.EvRecv {
			did = append(did, e.Node)
		}
	}
	if trace.Status == api.Fell && sideOf(nodes[trace.At].Kind) == "send" {
		did = append(did, trace.At)
	}
	for _, node := range did {
		if slices.Contains(told.never, node) {
			t.Fatalf("%d does something, by %v, of\n%s", node, script, text)
		}
	}
	m, _ := readAgain(text)
	around := newOutside(nodes)
	m.sees = func(where spot, held any) {
		came, is := held.(*pipe)
		if where.inside || !is {
			return
		}
		parent := around.parents[where.node]
		if side := sideOf(nodes[parent].Kind); side == "" || nodes[parent].Kids[0] != where.node {
			return
		} else if !slices.Contains(told.side(came.site, side), parent) {
			t.Fatalf("what %d made comes to %d, by %v, of\n%s", came.site, parent, script, text)
		}
		if slices.Contains(told.never, parent) {
			idle++
		}
	}
	m.run(script)
	return did, idle
}

// TestChansAgain holds who can meet in made programs against the second way, and against their runs; each rule has to matter often enough, also for what is done in runs.
func TestChansAgain(t *testing.T) {
	r := rand.New(rand.NewSource(42))
	several, idle := 0, 0
	ends, never, does := map[string]int{}, map[int]int{}, map[int]int{} // by what is done, by kinds of nodes
	turned, needed := map[string]int{}, map[string]int{}                // by rules: in how many programs it would be otherwise without; how often who does something would be told not to
	for round := range 600 {
		text := meetsMade(r)
		if round%4 == 0 {
			text = []string{made(r), livelyMade(r), thingsMade(r), giftsMade(r), racyMade(r), deedsMade(r)}[r.Intn(6)]
		}
		told, spots := holdChans(t, text)
		for _, e := range told.ends {
			ends["send"] += len(e.Sends)
			ends["take"] += len(e.Takes)
			ends["shut"] += len(e.Shuts)
		}
		for _, number := range told.never {
			never[spots.kind(number)]++
			several += max(0, len(spots.at(spots.nodes[number].Kids[0]))-1)
		}
		var did []int
		for range 4 {
			more, unable := holdMeetings(t, text, scriptOf(r), told)
			did = append(did, more...)
			idle += unable
		}
		for _, number := range did {
			does[spots.kind(number)]++
		}
		for _, rule := range helping {
			less := spots.lookNever(rule)
			if !slices.Equal(less, told.never) {
				turned[rule]++
			}
			for _, number := range did {
				if slices.Contains(less, number) {
					needed[rule]++
				}
			}
		}
		holdChans(t, spoilt(r, text))
	}
	if ends["send"] < 3000 || ends["take"] < 3000 || ends["shut"] < 400 || several < 50 || idle < 3000 {
		t.Error("too few ends; too few channels at those who never do anything, that come to them in runs:", ends, several, idle)
	}
	for _, kind := range []int{api.KSend, api.KCaseSend, api.KRecv, api.KCaseRecv} {
		if never[kind] < 400 || does[kind] < 300 {
			t.Error("too few never do anything, or do something:", kind, never[kind], does[kind])
		}
	}
	for _, rule := range helping {
		if turned[rule] < 30 || needed[rule] < 30 {
			t.Error("this rule matters too seldom:", rule, turned[rule], needed[rule])
		}
	}
}

// FuzzChans holds any text against the second way, and a run of it.
func FuzzChans(f *testing.F) {
	r := rand.New(rand.NewSource(43))
	for range 20 {
		f.Add(livelyMade(r), []byte{1, 2, 3})
		f.Add(meetsMade(r), []byte{1, 0, 4, 2, 1, 1})
	}
	f.Fuzz(func(t *testing.T, text string, picks []byte) {
		told, spots := holdChans(t, text)
		if spots == nil {
			return
		}
		var script []int
		for _, pick := range picks {
			script = append(script, int(int8(pick)))
		}
		holdMeetings(t, text, script, told)
	})
}
