package whole

import (
	"math/rand"
	"reflect"
	"testing"

	"ravel/api"
	"ravel/run"
	"ravel/syntax"
)

// scriptOf answers a script by chance.
func scriptOf(r *rand.Rand) []int {
	script := make([]int, r.Intn(30))
	for i := range script {
		script[i] = r.Intn(12)
		if r.Intn(10) == 0 {
			script[i] = int(r.Uint64())
		}
	}
	return script
}

// holdRun holds a run against the second way, and against that of the printed text, which has the same nodes.
func holdRun(t *testing.T, text string, script []int) api.Trace {
	t.Helper()
	trace, fault := run.Run(text, script)
	again, second := runAgain(text, script)
	if fault != second || !reflect.DeepEqual(trace, again) {
		t.Fatalf("%v: %v, %v, not %v, %v of\n%s", script, trace, fault, again, second, text)
	}
	printed, fault := syntax.Print(text)
	if _, tooLong := syntax.Parse(printed); fault.Code != api.OK || tooLong.Code != api.OK {
		return trace
	}
	if other, _ := run.Run(printed, script); !reflect.DeepEqual(trace, other) {
		t.Fatalf("%v: %v, not %v when it is printed, of\n%s", script, trace, other, text)
	}
	return trace
}

// TestRunAgain holds runs of made programs, by scripts by chance, against the second way; each way to end and each event has to be there often enough.
func TestRunAgain(t *testing.T) {
	r := rand.New(rand.NewSource(6))
	ends := map[int]int{}   // by Status
	events := map[int]int{} // by Kind
	falls := map[int]int{}  // by the node's kind
	for round := range 600 {
		text := made(r)
		if round%3 > 0 {
			text = livelyMade(r)
		}
		nodes, _ := syntax.Parse(text)
		for range 3 {
			trace := holdRun(t, text, scriptOf(r))
			ends[trace.Status]++
			if trace.Status == api.Fell {
				falls[nodes[trace.At].Kind]++
			}
			for _, e := range trace.Events {
				events[e.Kind]++
			}
		}
	}
	for status := api.Done; status <= api.Out; status++ {
		if ends[status] < 10 {
			t.Error("too few runs end so:", status, ends[status])
		}
	}
	for kind := api.EvPrint; kind <= api.EvEnd; kind++ {
		if events[kind] < 100 {
			t.Error("too few events are of this kind:", kind, events[kind])
		}
	}
	for _, kind := range []int{api.KPanic, api.KBinary, api.KDot, api.KAssert, api.KCall, api.KSend, api.KCaseSend, api.KClose} {
		if falls[kind] == 0 {
			t.Error("nothing falls at a node of this kind:", kind)
		}
	}
}

// FuzzRun holds any text, run by any script, against the second way.
func FuzzRun(f *testing.F) {
	r := rand.New(rand.NewSource(7))
	for range 20 {
		f.Add(made(r), []byte{1, 2, 3})
		f.Add(livelyMade(r), []byte{1, 0, 255, 2, 1, 1, 1, 3, 2, 1})
	}
	f.Add("func f(n int) int {return f(n+1)};func main(){f(0)}", []byte{})
	f.Fuzz(func(t *testing.T, text string, picks []byte) {
		script := make([]int, len(picks))
		for i, pick := range picks {
			script[i] = int(int8(pick))
		}
		holdRun(t, text, script)
	})
}
