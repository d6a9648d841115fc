package whole

import (
	"maps"
	"math/rand"
	"slices"
	"strconv"
	"testing"

	"ravel/api"
	"ravel/check"
	"ravel/flow"
	"ravel/syntax"
)

// This is a second way to tell where one can go on: from each station it is looked outward for what is behind it.

type outside struct {
	nodes   []api.Node
	parents map[int]int
}

func newOutside(nodes []api.Node) outside {
	o := outside{nodes, map[int]int{}}
	for number, n := range nodes {
		for _, kid := range n.Kids {
			o.parents[kid] = number
		}
	}
	return o
}

func isBody(kind int) bool { return kind == api.KFunc || kind == api.KMethod || kind == api.KLit }

func (o outside) kind(number int) int { return o.nodes[number].Kind }

func (o outside) isStation(number int) bool {
	kind := o.kind(number)
	return isBody(kind) || kind == api.KSig && isBody(o.kind(o.parents[number])) ||
		slices.Contains([]int{api.KDefine, api.KAssign, api.KDo, api.KSend, api.KGo, api.KIf, api.KFor, api.KReturn, api.KBreak, api.KSelect, api.KClose, api.KPanic, api.KPrint}, kind)
}

// function answers the function of a station.
func (o outside) function(station int) int {
	for !isBody(o.kind(station)) {
		station = o.parents[station]
	}
	return station
}

func (o outside) sig(function int) int {
	kids := o.nodes[function].Kids
	return kids[len(kids)-2]
}

// behind answers where one is when a statement, a case or a block is done.
func (o outside) behind(number int) int {
	parent := o.parents[number]
	kids := o.nodes[parent].Kids
	switch {
	case o.kind(parent) == api.KBlock && kids[len(kids)-1] != number:
		return kids[slices.Index(kids, number)+1]
	case isBody(o.kind(parent)):
		return o.sig(parent)
	case o.kind(parent) == api.KFor:
		return parent
	}
	return o.behind(parent)
}

// begin answers where one is when a block, or a statement, is begun.
func (o outside) begin(number int) int {
	if o.kind(number) != api.KBlock {
		return number
	}
	if kids := o.nodes[number].Kids; len(kids) > 0 {
		return kids[0]
	}
	return o.behind(number)
}

// next answers where one can go on from a station; perhaps one twice.
func (o outside) next(station int) []int {
	n := o.nodes[station]
	last := len(n.Kids) - 1
	switch n.Kind {
	case api.KSig, api.KPanic:
		return nil
	case api.KFunc, api.KMethod, api.KLit:
		return []int{o.begin(n.Kids[last])}
	case api.KIf:
		if last == 2 {
			return []int{o.begin(n.Kids[1]), o.begin(n.Kids[2])}
		}
		return []int{o.begin(n.Kids[1]), o.behind(station)}
	case api.KFor:
		return []int{o.begin(n.Kids[1]), o.behind(station)}
	case api.KSelect:
		var out []int
		for _, kid := range n.Kids {
			out = append(out, o.begin(slices.Max(o.nodes[kid].Kids)))
		}
		return out
	case api.KReturn:
		return []int{o.sig(o.function(station))}
	case api.KBreak:
		loop := station
		for o.kind(loop) != api.KFor {
			loop = o.parents[loop]
		}
		return []int{o.behind(loop)}
	}
	return []int{o.behind(station)}
}

// come answers the stations to which one comes from another one, if a certain one may not be gone over.
func (o outside) come(from, without int, seen map[int]bool) map[int]bool {
	if from != without && !seen[from] {
		seen[from] = true
		for _, to := range o.next(from) {
			o.come(to, without, seen)
		}
	}
	return seen
}

// overs answers of each reached station of a function all that are over it: without one of them one does not come there.
func (o outside) overs(function int) map[int][]int {
	out := map[int][]int{}
	reached := o.come(function, -1, map[int]bool{})
	for station := range reached {
		out[station] = nil
	}
	for other := range reached {
		without := o.come(function, other, map[int]bool{})
		for station := range reached {
			if station != other && !without[station] {
				out[station] = append(out[station], other)
			}
		}
	}
	return out
}

// roundMade answers a program, by chance, that has little but parts, loops and ends of them, within one another.
func roundMade(r *rand.Rand) string {
	left := 5 + r.Intn(60)
	var stmt func(loops, deep int) string
	stmts := func(loops, deep int) string {
		text := ""
		for range r.Intn(4) {
			if left > 0 {
				text += stmt(loops, deep-1) + "; "
			}
		}
		return text
	}
	block := func(loops, deep int) string { return "{" + stmts(loops, deep) + "}" }
	stmt = func(loops, deep int) string {
		left--
		switch kind := r.Intn(14); {
		case kind < 2 && deep > 0:
			return "if x " + []string{"<", ">", "=="}[r.Intn(3)] + " 3 " + block(loops, deep)
		case kind < 4 && deep > 0:
			return "if x == 1 " + block(loops, deep) + " else " + block(loops, deep)
		case kind == 4 && deep > 0:
			return "if x == 0 " + block(loops, deep) + " else if x == 1 " + block(loops, deep) + " else " + block(loops, deep)
		case kind < 7 && deep > 0:
			return "for x < " + strconv.Itoa(r.Intn(9)) + " " + block(loops+1, deep)
		case kind == 7 && deep > 0:
			return "select { case c <- x: " + stmts(loops, deep) + "case y := <-c: " + stmts(loops, deep) + "default: " + stmts(loops, deep) + "}"
		case kind == 8 && deep > 0:
			return "func() " + block(0, deep) + "()"
		case kind == 9 && loops > 0:
			return "break"
		case kind == 10 && r.Intn(3) == 0:
			return []string{"return", "panic(1)", "select {}"}[r.Intn(3)]
		}
		return "x = x + 1"
	}
	return "func main() { x := 0; c := make(chan int, 2); for x < 9 { x = x + 1; " + stmt(1, 6) + "; " + stmt(1, 6) + "; " + stmt(1, 6) + " } }"
}

// flowAgain has what is told of a program's flow.
type flowAgain struct {
	edges, rounds  [][2]int
	reached, overs []int
}

func (o outside) look() flowAgain {
	f := flowAgain{reached: make([]int, len(o.nodes)), overs: slices.Repeat([]int{-1}, len(o.nodes))}
	overs := map[int][]int{}
	for number, n := range o.nodes {
		if isBody(n.Kind) {
			maps.Copy(overs, o.overs(number))
		}
	}
	for station, all := range overs {
		f.reached[station] = 1
		if len(all) > 0 {
			// All others over a station are over the nearest one, too.
			f.overs[station] = slices.MaxFunc(all, func(a, b int) int { return len(overs[a]) - len(overs[b]) })
		}
	}
	for station := range o.nodes {
		if !o.isStation(station) {
			continue
		}
		next := o.next(station)
		slices.Sort(next)
		for _, to := range slices.Compact(next) {
			f.edges = append(f.edges, [2]int{station, to})
			if all, reached := overs[station]; reached && (to == station || slices.Contains(all, to)) {
				f.rounds = append(f.rounds, [2]int{station, to})
			}
		}
	}
	return f
}

// flowOf asks the faces; all answer one fault.
func flowOf(t *testing.T, text string) (flowAgain, api.Fault) {
	t.Helper()
	edges, first := flow.Edges(text)
	reached, second := flow.Reached(text)
	overs, third := flow.Over(text)
	rounds, fourth := flow.Rounds(text)
	if first != second || first != third || first != fourth {
		t.Fatalf("%v, %v, %v, %v of\n%s", first, second, third, fourth, text)
	}
	return flowAgain{edges, rounds, reached, overs}, first
}

func (f flowAgain) equal(other flowAgain) bool {
	return slices.Equal(f.edges, other.edges) && slices.Equal(f.rounds, other.rounds) && slices.Equal(f.reached, other.reached) && slices.Equal(f.overs, other.overs)
}

// holdFlow holds what is told of a text's flow against the second way, and against that of the printed text, which has the same nodes.
func holdFlow(t *testing.T, text string) flowAgain {
	t.Helper()
	got, fault := flowOf(t, text)
	if _, want := check.Check(text); fault != want {
		t.Fatalf("%v, not %v of\n%s", fault, want, text)
	}
	if fault.Code != api.OK {
		if !got.equal(flowAgain{}) {
			t.Fatalf("%v and %v of\n%s", fault, got, text)
		}
		return got
	}
	nodes, _ := syntax.Parse(text)
	if want := newOutside(nodes).look(); !got.equal(want) {
		t.Fatalf("%v, not %v of\n%s", got, want, text)
	}
	for _, round := range got.rounds {
		if nodes[round[1]].Kind != api.KFor {
			t.Fatalf("%v does not lead to a loop in\n%s", round, text)
		}
	}
	printed, _ := syntax.Print(text)
	if other, fault := flowOf(t, printed); fault.Code == api.OK && !got.equal(other) {
		t.Fatalf("%v, not %v when it is printed, of\n%s", got, other, text)
	}
	return got
}

// holdWays holds that a run goes by edges, and comes to no station ahead of the one over it. It answers how many edges the run goes by.
func holdWays(t *testing.T, text string, script []int, told flowAgain) int {
	t.Helper()
	m, _ := readAgain(text)
	gone := map[[2]int]bool{}
	m.goes = func(way []int, station int) {
		edge := [2]int{way[len(way)-1], station}
		gone[edge] = true
		if !slices.Contains(told.edges, edge) {
			t.Fatalf("%v is no edge of\n%s", edge, text)
		}
		if told.reached[station] != 1 || !slices.Contains(way, told.overs[station]) {
			t.Fatalf("%d is over %d, but one comes by %v there, in\n%s", told.overs[station], station, way, text)
		}
	}
	m.run(script)
	return len(gone)
}

// TestFlowAgain holds the flow of made programs against the second way, and against their runs.
func TestFlowAgain(t *testing.T) {
	r := rand.New(rand.NewSource(10))
	all, unreached, rounds, gone := 0, 0, 0, 0
	for round := range 500 {
		text := made(r)
		switch round % 3 {
		case 0:
			text = livelyMade(r)
		case 1:
			text = roundMade(r)
		}
		told := holdFlow(t, text)
		if len(told.edges) == 0 {
			t.Fatalf("nothing is told of\n%s", text)
		}
		all += len(told.edges)
		rounds += len(told.rounds)
		for _, edge := range told.edges {
			if told.reached[edge[0]] == 0 {
				unreached++
			}
		}
		gone += holdWays(t, text, scriptOf(r), told)
		holdFlow(t, spoilt(r, text))
	}
	if all < 10000 || unreached < 1000 || rounds < 1000 || gone < 3000 {
		t.Error("too few edges, or too few from stations that are not reached, that are rounds, or that runs go by:", all, unreached, rounds, gone)
	}
}

// FuzzFlow holds any text against the second way, and a run of it.
func FuzzFlow(f *testing.F) {
	r := rand.New(rand.NewSource(11))
	for range 20 {
		f.Add(made(r))
		f.Add(roundMade(r))
	}
	f.Fuzz(func(t *testing.T, text string) {
		if told := holdFlow(t, text); len(told.edges) > 0 {
			holdWays(t, text, nil, told)
		}
	})
}
