package whole

import (
	"math/rand"
	"reflect"
	"testing"

	"ravel/api"
	"ravel/code"
	"ravel/vm"
)

// holdVm holds a run of code against the second way, and answers it.
func holdVm(t *testing.T, c api.Code, script []int) (api.Trace, api.Errno) {
	t.Helper()
	trace, wrong := vm.Run(c, script)
	if want := codeCheckAgain(c); wrong != want {
		t.Fatalf("%d, not %d of %v", wrong, want, c)
	}
	if wrong != api.OK {
		if len(trace.Events) > 0 || trace.Status != 0 || trace.At != 0 {
			t.Fatalf("%v beside %d of %v", trace, wrong, c)
		}
		return trace, wrong
	}
	if want := runOrders(c, script); !reflect.DeepEqual(trace, want) {
		t.Fatalf("by %v:\n%v, not\n%v of\n%v", script, trace, want, c)
	}
	return trace, api.OK
}

// TestVmAgain holds runs of made code, by scripts by chance, against the second way; each way to end, each event, and each order that can fall has to be there often enough.
func TestVmAgain(t *testing.T) {
	r := rand.New(rand.NewSource(32))
	ends := map[int]int{}   // by Status
	events := map[int]int{} // by Kind
	falls := map[int]int{}  // by what the order does
	for range 6000 {
		c := orderlyCode(r)
		for range 3 {
			trace, _ := holdVm(t, c, scriptOf(r))
			ends[trace.Status]++
			if trace.Status == api.Fell {
				falls[c.Ops[trace.At].Do]++
			}
			for _, e := range trace.Events {
				events[e.Kind]++
			}
		}
		holdVm(t, spoiltCode(r, c), scriptOf(r))
	}
	for status := api.Done; status <= api.Out; status++ {
		if ends[status] < 100 {
			t.Error("too few runs end so:", status, ends[status])
		}
	}
	for kind := api.EvPrint; kind <= api.EvEnd; kind++ {
		if events[kind] < 500 {
			t.Error("too few events are of this kind:", kind, events[kind])
		}
	}
	for _, do := range []int{api.OpGet, api.OpPut, api.OpFind, api.OpIs, api.OpTwo, api.OpCall, api.OpGo, api.OpPanic, api.OpSend, api.OpCase, api.OpClose} {
		if falls[do] < 10 {
			t.Error("too few runs fall at this order:", do, falls[do])
		}
	}
}

// TestVmSmall holds runs of any small code that may be against the second way.
func TestVmSmall(t *testing.T) {
	r := rand.New(rand.NewSource(33))
	right := 0
	for range 60000 {
		if _, wrong := holdVm(t, smallCode(r), scriptOf(r)); wrong == api.OK {
			right++
		}
	}
	if right < 2000 {
		t.Error("too few may be:", right)
	}
}

// FuzzVm holds runs of what is read from any bytes against the second way.
func FuzzVm(f *testing.F) {
	r := rand.New(rand.NewSource(34))
	for range 20 {
		f.Add(codeBytesAgain(orderlyCode(r)), []byte{1, 2, 3})
		c, _ := code.Make(livelyMade(r))
		f.Add(codeBytesAgain(c), []byte{1, 0, 4, 2, 1, 1})
	}
	f.Fuzz(func(t *testing.T, b []byte, picks []byte) {
		c, wrong := code.Read(b)
		if wrong != api.OK {
			return
		}
		var script []int
		for _, pick := range picks {
			script = append(script, int(int8(pick)))
		}
		holdVm(t, c, script)
	})
}
