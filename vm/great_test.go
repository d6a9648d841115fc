package vm

import (
	"slices"
	"strconv"
	"strings"
	"testing"

	"ravel/api"
)

// TestGreat: P1: also the greatest code comes to its end: calls with all slots, functions that take all of them, things with all fields.
func TestGreat(t *testing.T) {
	most := strconv.Itoa(api.MaxNodes)
	all := ""
	for slot := range api.MaxNodes {
		all += " " + strconv.Itoa(slot)
	}
	// What is made stays on the stack of its call, and each call is within the one ahead of it.
	deep := func(make string) string {
		return "make f; call; drop; num; ret; func f 0 " + most + "; " + strings.Repeat(make+"; ", 700) + "make f; x: call; ret; func g 0 " + most + all + "; num; ret; kind " + most
	}
	hold(t, "a: make f; call; drop; jump a; func f 0 "+most+"; num; ret", nil, "out@a")
	hold(t, deep("make g"), nil, "fell@x")
	hold(t, deep("new"), nil, "fell@x")
	hold(t, deep("chan 8"), nil, "fell@x")
}

// TestManyCases: P1: selects with as many cases as may be, at which all threads stand but one, which prints.
func TestManyCases(t *testing.T) {
	const arms = api.MaxNodes
	w := write("a: make f; go; load 0; num 1; two 0; store 0; load 0; num 10; two 7; unless a; b: num; print; jump b; func f 0 1; chan; store 0")
	w.Ops = append(w.Ops, slices.Repeat([]api.Op{{Do: api.OpLoad}}, arms)...)
	w.Ops = append(w.Ops, api.Op{Do: api.OpSelect, A: arms})
	last := len(w.Ops) + arms
	w.Ops = append(w.Ops, slices.Repeat([]api.Op{{Do: api.OpCase, B: last}}, arms)...)
	w.Ops = append(w.Ops, api.Op{Do: api.OpRet})
	// Ten orders of main for each of eleven threads, which come to their selects; then three orders a print, of which the second one prints.
	left := api.MaxOps - 11*(10+arms+3)
	trace, wrong := Run(w.Code, nil)
	if wrong != api.OK || trace.Status != api.Out || len(trace.Events) != 11+(left+1)/3 {
		t.Error(wrong, trace.Status, trace.At, len(trace.Events), 11+(left+1)/3)
	}
}
