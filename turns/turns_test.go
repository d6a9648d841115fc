package turns

import (
	"fmt"
	"slices"
	"strings"
	"testing"

	"ravel/api"
)

// plan is what a thread does: its marks, one after the other. Behind the last one it is at its end.
type plan []Mark

// planned are threads with plans.
type planned struct {
	plans [][]Mark
	heard []string // what they were answered
	ends  End      // what GoOn gives up with, when somebody goes on behind a mark at the node 99
}

func (p *planned) Begin(first any) {
	p.plans = append(p.plans, first.(plan))
	p.heard = append(p.heard, "")
}

func (p *planned) GoOn(thread int, a Answer) Mark {
	p.heard[thread] += fmt.Sprintf("%d:%v ", a.Node, a.Held)
	left := p.plans[thread]
	if a.Node == 99 {
		panic(p.ends)
	}
	if len(left) == 0 {
		return Mark{Does: Ends}
	}
	p.plans[thread] = left[1:]
	return left[0]
}

func (p *planned) Number(held any) int {
	number, _ := held.(int)
	return number
}

// tell tells a trace by a text.
func tell(trace api.Trace) string {
	kinds := strings.Fields("print send recv close go end")
	var parts []string
	for _, e := range trace.Events {
		parts = append(parts, fmt.Sprintf("%d %s@%d %d", e.Thread, kinds[e.Kind-1], e.Node, e.Num))
	}
	parts = append(parts, fmt.Sprintf("%s@%d", strings.Fields("done fell stuck out")[trace.Status], trace.At))
	return strings.Join(parts, "; ")
}

func send(node int, c *Channel, held any) Arm {
	return Arm{Node: node, Channel: c, Sends: true, Held: held}
}

func take(node int, c *Channel) Arm {
	return Arm{Node: node, Channel: c}
}

func trade(node int, arms ...Arm) Mark {
	return Mark{Does: Trades, Node: node, Arms: arms}
}

// TestTurns: E5 to E7: what threads do at their marks, what they are answered, what was picked, and what is seen of it.
func TestTurns(t *testing.T) {
	none, one := &Channel{Zero: 0}, &Channel{Room: 1, Zero: 70}
	other := plan{trade(11, send(11, none, 5)), trade(12, take(12, one)), {Does: Prints, Node: 13, Held: 8}}
	main := plan{
		{Does: Begins, Node: 1, Held: other},
		trade(2, take(3, one), take(4, none)),
		trade(5, send(5, one, 6)),
		{Does: Shuts, Node: 6, Held: one},
		trade(7, take(7, one)),
		{Does: Trades, Node: 8, Arms: []Arm{take(9, none), send(9, nil, 1)}, Other: 10},
	}
	p := &planned{}
	var seen []string
	trace, picks := Run(p, main, []int{0, 1, 1, 0, 0, 1}, func(a Act) {
		seen = append(seen, fmt.Sprintf("%d/%d %v %v %d %v", a.Kind, a.Thread, a.Channel != nil, a.Met, a.Other, a.Nothing))
	})
	want := "0 go@1 1; 1 send@11 5; 0 recv@4 5; 0 send@5 6; 1 recv@12 6; 1 print@13 8; 0 close@6 0; 0 recv@7 70; 1 end@-1 0; 0 end@-1 0; done@-1"
	if got := tell(trace); got != want {
		t.Errorf("%s, not\n%s", got, want)
	}
	if got := fmt.Sprint(picks); got != "[{0 2} {1 2} {1 2} {0 2} {0 2} {1 2}]" {
		t.Error(got)
	}
	if want := []string{"-1:<nil> 1:<nil> 4:5 5:<nil> 6:<nil> 7:70 10:<nil> ", "-1:<nil> 11:<nil> 12:6 13:<nil> "}; !slices.Equal(p.heard, want) {
		t.Errorf("%q", p.heard)
	}
	want = "5/0 false false 0 false; 2/1 true true 0 false; 3/0 true true 1 false; 2/0 true false 0 false; 3/1 true false 0 false; 1/1 false false 0 false; 4/0 true false 0 false; 3/0 true false 0 true; 6/1 false false 0 false; 6/0 false false 0 false"
	if got := strings.Join(seen, "; "); got != want {
		t.Errorf("%s, not\n%s", got, want)
	}
}

// TestEnds: a run ends wherever somebody gives up; nobody goes on behind that.
func TestEnds(t *testing.T) {
	shut := &Channel{}
	for _, x := range []struct {
		main plan
		want string
	}{
		{nil, "0 end@-1 0; done@-1"},
		{plan{trade(1)}, "stuck@-1"},
		{plan{{Does: Shuts, Node: 2, Held: shut}, {Does: Shuts, Node: 3, Held: shut}}, "0 close@2 0; fell@3"},
		{plan{{Does: Shuts, Node: 4, Held: 7}}, "fell@4"},
		{plan{{Does: Shuts, Node: 5}}, "fell@5"},
		{plan{trade(6, send(7, shut, 1))}, "fell@7"},
		{plan{{Does: Prints, Node: 99, Held: 1}, {Does: Prints, Node: 8}}, "0 print@99 1; out@42"},
		{plan{{Does: Begins, Node: 99, Held: plan{}}}, "0 go@99 1; out@42"},
	} {
		trace, picks := Run(&planned{ends: End{api.Out, 42}}, x.main, nil, nil)
		if got := tell(trace); got != x.want || len(picks) > 0 {
			t.Errorf("%s, %v, not %s", got, picks, x.want)
		}
	}
}

// TestPanicGoesThrough: what is no end of a run is not taken for one.
func TestPanicGoesThrough(t *testing.T) {
	defer func() {
		if reason := recover(); reason == nil {
			t.Error("it is lost")
		}
	}()
	Run(&planned{}, 5, nil, nil)
}
