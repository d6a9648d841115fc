package desk

import (
	"strconv"

	"ravel/api"
	"ravel/calls"
	"ravel/check"
	"ravel/consts"
	"ravel/defs"
	"ravel/effects"
	"ravel/fold"
	"ravel/points"
	"ravel/races"
	"ravel/run"
	"ravel/syntax"
	"ravel/tries"
)

// question is what a line can ask: by which word, with how many numbers, and how it is answered of a program that may be.
type question struct {
	word   string
	takes  func(numbers int) bool
	answer func(about check.Program, numbers []int) (string, error)
}

// questions answers all that there are. Of each program that may be there is code, so of code no more is told than of the check.
func questions() []question {
	return []question{
		{"check", none, tellOK},
		{"types", none, tellTypes},
		{"run", anyMany, tellRun},
		{"outcomes", none, tellOutcomes},
		{"calls", none, tellCalls},
		{"idle", none, tellIdle},
		{"quiet", none, tellQuiet},
		{"races", anyMany, tellRaces},
		{"value", one, tellValue},
		{"points", one, tellPoints},
		{"fold", none, tellFold},
		{"code", none, tellOK},
	}
}

func none(numbers int) bool { return numbers == 0 }

func one(numbers int) bool { return numbers == 1 }

func anyMany(numbers int) bool { return true }

func tellOK(about check.Program, numbers []int) (string, error) {
	return "ok", nil
}

func tellTypes(about check.Program, numbers []int) (string, error) {
	var typed []int
	for node, typ := range about.Texts {
		if typ != "" {
			typed = append(typed, node)
		}
	}
	return join(typed, "; ", func(node int) string { return strconv.Itoa(node) + ":" + about.Texts[node] }), nil
}

func tellRun(about check.Program, script []int) (string, error) {
	trace, _ := run.Picks(about, script)
	return ending(tries.Printed(trace.Events), trace.Status, trace.At), nil
}

func tellOutcomes(about check.Program, numbers []int) (string, error) {
	outcomes, wrong := tries.Outcomes(about)
	if wrong != api.OK {
		return "", errFull
	}
	return join(outcomes, "; ", func(o api.Outcome) string {
		return ending(o.Prints, o.Status, o.At) + " x " + strconv.Itoa(o.Runs)
	}), nil
}

func tellCalls(about check.Program, numbers []int) (string, error) {
	return orNone(pairs(calls.Look(about).Calls(), ">")), nil
}

func tellIdle(about check.Program, numbers []int) (string, error) {
	table := defs.Look(about)
	return orNone(row(table.Idle())), nil
}

func tellQuiet(about check.Program, numbers []int) (string, error) {
	return orNone(row(effects.Look(about).Quiet())), nil
}

func tellRaces(about check.Program, script []int) (string, error) {
	return orNone(pairs(races.Of(about, script), "-")), nil
}

func tellValue(about check.Program, numbers []int) (string, error) {
	node := numbers[0]
	if !isNode(about, node) {
		return "", errNone
	}
	return known(consts.Look(about).Values[node]), nil
}

func tellPoints(about check.Program, numbers []int) (string, error) {
	node := numbers[0]
	if !isNode(about, node) {
		return "", errNone
	}
	return orNone(row(points.Look(about).Sites(node))), nil
}

func isNode(about check.Program, number int) bool {
	return number >= 0 && number < len(about.Nodes)
}

func tellFold(about check.Program, numbers []int) (string, error) {
	nodes, fault := syntax.Parse(fold.Less(about))
	if fault.Code != api.OK {
		return "", errFull
	}
	return strconv.Itoa(len(nodes)), nil
}
