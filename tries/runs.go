package tries

import (
	"iter"
	"slices"

	"ravel/api"
	"ravel/check"
	"ravel/run"
)

// attempt is a run, and its script, which has a number of each pick.
type attempt struct {
	api.Trace
	script []int
}

// runs goes through the runs of a program, in the order of their scripts, and counts those that were ahead.
func runs(read check.Program) iter.Seq2[int, attempt] {
	return func(yield func(int, attempt) bool) {
		var script []int
		for tried, more := 0, true; more; tried++ {
			trace, picks := run.Picks(read, script)
			if !yield(tried, attempt{trace, places(picks)}) {
				return
			}
			script, more = next(picks)
		}
	}
}

func places(picks []run.Pick) []int {
	var out []int
	for _, pick := range picks {
		out = append(out, pick.Place)
	}
	return out
}

// next answers the beginning of the first script behind that of a run, and whether there is one. Behind it first ones are picked: how many numbers these are is known when it is run.
func next(picks []run.Pick) ([]int, bool) {
	for last, pick := range slices.Backward(picks) {
		if pick.Place+1 < pick.Many {
			return append(places(picks[:last]), pick.Place+1), true
		}
	}
	return nil, false
}

// count counts a run among those that end and print as it does.
func count(outcomes []api.Outcome, a attempt) []api.Outcome {
	prints := Printed(a.Events)
	at := slices.IndexFunc(outcomes, func(o api.Outcome) bool {
		return o.Status == a.Status && o.At == a.At && slices.Equal(o.Prints, prints)
	})
	if at < 0 {
		return append(outcomes, api.Outcome{Status: a.Status, At: a.At, Prints: prints, Script: a.script, Runs: 1})
	}
	outcomes[at].Runs++
	return outcomes
}

// Printed answers the numbers that are printed, of the events of a run.
func Printed(events []api.Event) []int {
	var out []int
	for _, e := range events {
		if e.Kind == api.EvPrint {
			out = append(out, e.Num)
		}
	}
	return out
}
