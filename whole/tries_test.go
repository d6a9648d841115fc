package whole

import (
	"fmt"
	"math/rand"
	"reflect"
	"slices"
	"strings"
	"testing"

	"ravel/api"
	"ravel/run"
	"ravel/syntax"
	"ravel/tries"
)

// leaf is a run, and its script.
type leaf struct {
	api.Trace
	script []int
}

// grow answers the runs whose scripts begin so, as a tree: where a script is too short for all picks, all longer ones are gone into. It gives up when there are too many.
func grow(m machine, script []int, leaves []leaf) []leaf {
	if len(leaves) > api.MaxRuns {
		return leaves
	}
	trace, sizes := m.run(script)
	if len(sizes) == len(script) {
		return append(leaves, leaf{trace, script})
	}
	for place := range sizes[len(script)] {
		leaves = grow(m, append(slices.Clone(script), place), leaves)
	}
	return leaves
}

func printsOf(trace api.Trace) []int {
	prints := []int{}
	for _, e := range trace.Events {
		if e.Kind == api.EvPrint {
			prints = append(prints, e.Num)
		}
	}
	return prints
}

func endText(status, at int, prints []int) string {
	return fmt.Sprintln(status, at, append([]int{}, prints...))
}

// allAgain answers what All and Find (of each status, "" where there is none) have to say, told by texts.
func allAgain(leaves []leaf) (all string, finds [4]string) {
	runs := map[string]int{}
	first := map[string]leaf{}
	var order []string
	for _, l := range leaves {
		end := endText(l.Status, l.At, printsOf(l.Trace))
		if runs[end]++; runs[end] == 1 {
			order = append(order, end)
			first[end] = l
		}
		if finds[l.Status] == "" {
			finds[l.Status] = fmt.Sprintln(l.script)
		}
	}
	for _, end := range order {
		all += end + fmt.Sprintln(first[end].script, runs[end])
	}
	return all, finds
}

func allText(outcomes []api.Outcome) string {
	text := ""
	for _, o := range outcomes {
		text += endText(o.Status, o.At, o.Prints) + fmt.Sprintln(append([]int{}, o.Script...), o.Runs)
	}
	return text
}

// holdFault holds that both answer just a fault.
func holdFault(t *testing.T, text string, want api.Fault) {
	t.Helper()
	if outcomes, fault := tries.All(text); fault != want || len(outcomes) > 0 {
		t.Fatalf("%v, %v, not %v of\n%s", outcomes, fault, want, text)
	}
	for status := api.Done; status <= api.Out; status++ {
		if script, is, fault := tries.Find(text, status); fault != want || is || len(script) > 0 {
			t.Fatalf("%d: %v, %v, %v, not %v of\n%s", status, script, is, fault, want, text)
		}
	}
}

// holdTries holds what is told of all runs against the second way.
func holdTries(t *testing.T, text string) []api.Outcome {
	t.Helper()
	m, fault := readAgain(text)
	if fault.Code != api.OK {
		holdFault(t, text, fault)
		return nil
	}
	leaves := grow(m, []int{}, nil)
	if len(leaves) > api.MaxRuns {
		holdFault(t, text, api.Fault{Code: api.ErrFull})
		return nil
	}
	want, finds := allAgain(leaves)
	outcomes, fault := tries.All(text)
	if got := allText(outcomes); got != want || fault != (api.Fault{}) {
		t.Fatalf("%v:\n%snot\n%sof\n%s", fault, got, want, text)
	}
	for status, want := range finds {
		script, is, fault := tries.Find(text, status)
		got := ""
		if is {
			got = fmt.Sprintln(append([]int{}, script...))
		}
		if got != want || fault != (api.Fault{}) || !is && len(script) > 0 {
			t.Fatalf("%d: %v, %v, not %s, of\n%s", status, script, fault, want, text)
		}
	}
	return outcomes
}

// holdPrinted holds that of the printed text, which has the same nodes, the same is told.
func holdPrinted(t *testing.T, text string, outcomes []api.Outcome) {
	t.Helper()
	printed, _ := syntax.Print(text)
	if _, fault := syntax.Parse(printed); fault.Code != api.OK {
		return
	}
	if other, _ := tries.All(printed); !reflect.DeepEqual(outcomes, other) {
		t.Fatalf("%v, not %v when it is printed, of\n%s", outcomes, other, text)
	}
}

// holdIsOutcome holds that a run by any script is one of the outcomes, and that of an outcome by its script this one.
func holdIsOutcome(t *testing.T, text string, script []int, outcomes []api.Outcome) {
	t.Helper()
	is := func(script []int) func(o api.Outcome) bool {
		trace, _ := run.Run(text, script)
		return func(o api.Outcome) bool {
			return o.Status == trace.Status && o.At == trace.At && slices.Equal(o.Prints, printsOf(trace))
		}
	}
	if !slices.ContainsFunc(outcomes, is(script)) {
		t.Fatalf("what comes by %v is not among %v of\n%s", script, outcomes, text)
	}
	for _, o := range outcomes {
		if !is(o.Script)(o) {
			t.Fatalf("something else than %v comes of\n%s", o, text)
		}
	}
}

// fewMade answers a program of few statements, by chance: often it has several runs, and not too many.
func fewMade(r *rand.Rand) string {
	one := func(texts ...string) string { return texts[r.Intn(len(texts))] }
	stmt := func() string {
		return one("c<-1", "d<-2", "c<-x", "x=<-c", "print(<-d)", "print(<-c)", "<-d", "print(x)", "print(7)", "x=x+1", "close(c)", "close(d)",
			"select{case c<-3:print(3);case y:=<-d:print(y);}", "select{case x:=<-c:print(x);case d<-4:case x:=<-d:print(-x)}", "select{case <-c:default:print(5)}", "select{case d<-6:x=2;default:}",
			"if x==1{panic(x)}", "print(6/x)", "for x==2{}", "for x==0{}", "for x==1{}", "c=d", "if x>2{go func(){x=x*2}()}")
	}
	stmts := func(many int) string {
		var list []string
		for range many {
			list = append(list, stmt())
		}
		return strings.Join(list, ";")
	}
	text := "func main(){x:=0;c:=make(chan int" + one("", ",1", ",2") + ");d:=make(chan int" + one("", "", ",1") + ");"
	for range 1 + r.Intn(2) {
		text += "go func(){" + stmts(1+r.Intn(3)) + "}();"
	}
	return text + stmts(1+r.Intn(4)) + "}"
}

// TestTriesAgain holds all runs of made programs against the second way; several outcomes, and each way to end, have to be there often enough.
func TestTriesAgain(t *testing.T) {
	r := rand.New(rand.NewSource(8))
	several, many, none := 0, 0, 0
	ends := map[int]int{} // by Status
	for round := range 500 {
		text := fewMade(r)
		switch round % 10 {
		case 0:
			text = livelyMade(r)
		case 1:
			text = made(r)
		}
		outcomes := holdTries(t, text)
		if len(outcomes) == 0 {
			none++
			continue
		}
		holdPrinted(t, text, outcomes)
		holdIsOutcome(t, text, scriptOf(r), outcomes)
		if len(outcomes) > 1 {
			several++
		}
		if len(outcomes) > 5 {
			many++
		}
		for _, o := range outcomes {
			ends[o.Status]++
		}
	}
	if several < 150 || many < 15 || none < 10 {
		t.Error("too few have several outcomes, many, or too many runs:", several, many, none)
	}
	for status := api.Done; status <= api.Out; status++ {
		if ends[status] < 10 {
			t.Error("too few outcomes end so:", status, ends[status])
		}
	}
}

// FuzzTries holds any text against the second way.
func FuzzTries(f *testing.F) {
	r := rand.New(rand.NewSource(9))
	for range 20 {
		f.Add(fewMade(r))
		f.Add(livelyMade(r))
	}
	f.Fuzz(func(t *testing.T, text string) { holdTries(t, text) })
}
