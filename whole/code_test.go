package whole

import (
	"math/rand"
	"slices"
	"testing"

	"ravel/api"
	"ravel/check"
	"ravel/code"
	"ravel/run"
	"ravel/vm"
)

// holdCode holds that a program's code is right, and answers it, and whether there is one.
func holdCode(t *testing.T, text string) (api.Code, bool) {
	t.Helper()
	c, fault := code.Make(text)
	if _, want := check.Check(text); fault != want {
		t.Fatalf("%v, not %v of\n%s", fault, want, text)
	}
	if fault.Code != api.OK {
		if c.Ops != nil || c.Fns != nil || c.Kinds != nil {
			t.Fatalf("%v beside %v of\n%s", c, fault, text)
		}
		return c, false
	}
	if wrong := code.Check(c); wrong != api.OK {
		t.Fatalf("%d of %v of\n%s", wrong, c, text)
	}
	return c, true
}

// holdRunsCode holds that code runs as its program does, by a script, and answers how both end.
func holdRunsCode(t *testing.T, text string, c api.Code, script []int) (int, int) {
	t.Helper()
	first, _ := run.Run(text, script)
	second, wrong := vm.Run(c, script)
	if wrong != api.OK {
		t.Fatalf("%d of %v of\n%s", wrong, c, text)
	}
	a, b := withoutNodes(first), withoutNodes(second)
	same := first.Status == second.Status
	if first.Status == api.Out {
		fewer := min(len(a), len(b))
		a, b, same = a[:fewer], b[:fewer], true
	}
	if !same || !slices.Equal(a, b) {
		t.Fatalf("by %v:\n%v, not\n%v of %v of\n%s", script, second, first, c, text)
	}
	return first.Status, second.Status
}

// TestCodeRuns holds runs of the code of made programs against those of the programs: a run that is not out of steps is not out of orders, too.
func TestCodeRuns(t *testing.T) {
	r := rand.New(rand.NewSource(28))
	ends := map[int]int{} // by Status
	for round := range 2400 {
		text := livelyMade(r)
		if round%3 == 0 {
			text = []string{made(r), setterMade(r), roundMade(r), racyMade(r), thingsMade(r), deedsMade(r), sureMade(r), chainMade(r)}[r.Intn(8)]
		}
		c, _ := holdCode(t, text)
		for range 4 {
			first, _ := holdRunsCode(t, text, c, scriptOf(r))
			ends[first]++
		}
		holdCode(t, spoilt(r, text))
	}
	for status := api.Done; status <= api.Out; status++ {
		if ends[status] < 100 {
			t.Error("too few runs end so:", status, ends[status])
		}
	}
}

// FuzzCode holds the code of any text, and a run of it.
func FuzzCode(f *testing.F) {
	r := rand.New(rand.NewSource(31))
	for range 20 {
		f.Add(livelyMade(r), []byte{1, 2, 3})
		f.Add(thingsMade(r), []byte{1, 0, 4, 2, 1, 1})
	}
	f.Fuzz(func(t *testing.T, text string, picks []byte) {
		c, is := holdCode(t, text)
		if !is {
			return
		}
		var script []int
		for _, pick := range picks {
			script = append(script, int(int8(pick)))
		}
		holdRunsCode(t, text, c, script)
	})
}

// TestCodeRunsParts holds runs of code where the order of parts matters, or how many calls and threads there are.
func TestCodeRunsParts(t *testing.T) {
	const head = livelyHead + "func p(n int) int { print(n); return n }\nfunc q(n int) *A { print(n); return nil }\nfunc k(n int) chan int { print(n); return make(chan int, 1) }\n"
	for _, stmts := range []string{
		// What is nil falls ahead of the values.
		"f := new(A).f; print(f == nil); f(p(1))",
		"f := new(A).f; go f(p(1)); print(2)",
		"new(A).f(p(1))",
		"func() func(int, int) {}()(p(1), p(2))",
		"c := make(chan func(int), 1); c <- nil; (<-c)(p(1))",
		"f := down; f(p(1)); f = nil; f(p(2))",
		"f := new(A).f; f(1 / p(0))",
		"f := new(B).a; f.get(); print(3)",
		"new(A).i.put(p(1))",
		"go new(A).i.put(p(1))",
		// Fields are looked for behind the value.
		"q(1).n = p(2)",
		"new(A).next.n = p(2)",
		"print(q(1).n + p(2))",
		"a := new(A); b := a; a.n = func() int { a = new(A); return 5 }(); print(a.n); print(b.n)",
		"x := 1; x = x + func() int { x = 10; return x }(); print(x)",
		// Parts are done from the left, the right one just if it is needed.
		"print(p(1) - p(2) * p(3)); print(both(1, false) && both(2, true)); print(both(3, true) || both(4, false)); print(both(5, true) && both(6, false) || both(7, true))",
		"k(1) <- p(2); select { case k(3) <- p(4): case k(5) <- p(6): case <-k(7): default: print(8) }; close(k(9)); go func(a int, b int) {}(p(10), p(11))",
		"print(true == both(1, true)); print(!both(2, false) != false); print(-p(3)); print(- -p(4))",
		// Variables are made anew each time.
		"f := func() int { return 0 }; i := 0; for i < 3 { x := i * 10; g := f; f = func() int { x = x + 1; return x + g() }; i = i + 1 }; print(f()); print(f())",
		"c := make(chan int, 2); c <- 1; c <- 2; f := func() int { return 0 }; i := 0; for i < 2 { select { case x := <-c: g := f; f = func() int { x = x + 1; return x * 10 + g() } }; i = i + 1 }; print(f()); print(f())",
		"n := func(n int) func() func(int) int { return func() func(int) int { return func(k int) int { n = n + k; return n } } }; a := n(1)(); b := n(100)(); print(a(1)); print(b(1)); print(a(5))",
		"x := 1; if true { x := x + 1; print(x); x = x + 1; print(x) }; print(x)",
		// What comes back from a function without a return.
		"print(func() int {}()); print(func() bool {}()); print(func() *A {}() == nil); func() { return }()",
		"i := 0; for true { i = i + 1; if i == 2 { break }; select { default: for true { break } }; print(i) }; print(i)",
		// Methods keep what stands ahead of their `.`.
		"a := new(A); a.n = 3; m := a.get; a = new(A); print(m()); print(a.get()); b := new(B).a; print(b == nil); r := new(B); r = nil; print(r.get())",
		"a := new(A); i := a.put(3); f := i.put; print(f(4).get()); b := new(B); i = b; print(i.get()); print(i == b); print(i.(*B) == b); i.(*A).n = 1",
		"a := new(A); a.i.(*A).n = 1", "a := new(A); b := a.i.(*B); print(b == nil)",
		// Calls within one another, threads, numbers.
		"print(down(38))", "print(down(39))", "print(down(40))", "print(down(41))", "go down(39); go down(40); print(1); print(2)",
		"i := 0; for i < 11 { go p(i); i = i + 1 }; print(i)", "i := 0; for i < 12 { go p(i); i = i + 1 }; print(i)",
		"x := 1; n := 0; for n < 63 { x = x * 2; n = n + 1 }; print(x); print(-x); print(x - 1); print(x / -1); print(x % -1); print(-7 / 2); print(-7 % 2); print(7 / -2); print(7 % -2)",
		"print(1 / p(0))", "print(1 % p(0))", "panic(p(1)); print(2)",
		"c := make(chan int); close(c); close(c)", "c := make(chan int, 1); close(c); print(<-c); c <- 1", "close(new(A).c)", "select {}", "<-new(A).c",
		"x := 0; for true { x = x + 1 }", "c := make(chan int); c <- 1",
		"c := make(chan bool, 1); c <- true; print(<-c); d := make(chan *A, 1); d <- new(A); print((<-d).n); e := make(chan chan int, 1); e <- k(1); f := <-e; f <- 3; print(<-f)",
	} {
		text := head + "func main() { " + stmts + " }"
		c, is := holdCode(t, text)
		if !is {
			t.Fatal(stmts)
		}
		for _, script := range [][]int{nil, {1, 1, 1, 1, 1, 1}, {0, 2, 0, 1, 3, 0, 1}, {2, 1}} {
			first, second := holdRunsCode(t, text, c, script)
			if first != second {
				t.Errorf("%d, not %d of %s", second, first, stmts)
			}
		}
	}
}
