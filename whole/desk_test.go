package whole

import (
	"fmt"
	"math/rand"
	"regexp"
	"strconv"
	"strings"
	"testing"

	"ravel/api"
	"ravel/calls"
	"ravel/check"
	"ravel/consts"
	"ravel/defs"
	"ravel/desk"
	"ravel/effects"
	"ravel/fold"
	"ravel/points"
	"ravel/races"
	"ravel/run"
	"ravel/syntax"
	"ravel/tries"
)

// deskLine has the form of all lines that ask something: the word, and its numbers.
var deskLine = regexp.MustCompile(`^(?:(check|types|outcomes|calls|idle|quiet|fold|code)|(run|races)((?: (?:0|-?[1-9][0-9]{0,8}))*)|(value|points)( (?:0|-?[1-9][0-9]{0,8})))$`)

// listAgain writes a list, its items as a format says; none, if there are none.
func listAgain[T any](list []T, format, between string) string {
	out := ""
	for _, item := range list {
		out += between + fmt.Sprintf(format, item)
	}
	if out == "" {
		return "none"
	}
	return strings.TrimPrefix(out, between)
}

// pairsAgain writes pairs of numbers.
func pairsAgain(list [][2]int, sign string) string {
	var out []string
	for _, pair := range list {
		out = append(out, fmt.Sprint(pair[0], sign, pair[1]))
	}
	return listAgain(out, "%s", " ")
}

// endAgain writes what is printed, and how a run ends.
func endAgain(prints []int, status, at int) string {
	end := []string{"done", fmt.Sprint("fell ", at), "stuck", fmt.Sprint("out ", at)}[status]
	return strings.TrimPrefix(listAgain(prints, "%d", " ")+" "+end, "none ")
}

// lineAgain answers one line by what the faces of all packages say of the text.
func lineAgain(text, line string) string {
	form := deskLine.FindStringSubmatch(line)
	if form == nil {
		return "?"
	}
	typesOf, fault := check.Check(text)
	if fault.Code != api.OK {
		return fmt.Sprintf("fault %d %d", fault.Code, fault.At)
	}
	numbers := []int{}
	for _, word := range strings.Fields(form[3] + form[5]) {
		num, _ := strconv.Atoi(word)
		numbers = append(numbers, num)
	}
	switch form[1] + form[2] + form[4] {
	case "types":
		out := []string{}
		for node, typ := range typesOf {
			if typ != "" {
				out = append(out, fmt.Sprintf("%d:%s", node, typ))
			}
		}
		return strings.Join(out, "; ")
	case "value":
		return valueAgain(text, numbers[0], len(typesOf))
	case "points":
		if numbers[0] < 0 || numbers[0] >= len(typesOf) {
			return "?"
		}
		sets, _ := points.Sets(text)
		return listAgain(sets[numbers[0]], "%d", " ")
	case "outcomes":
		return outcomesAgain(text)
	case "fold":
		folded, _ := fold.Fold(text)
		nodes, fault := syntax.Parse(folded)
		if fault.Code != api.OK {
			return "full"
		}
		return fmt.Sprint(len(nodes))
	}
	return factAgain(text, form[1]+form[2], numbers)
}

// factAgain answers what is left.
func factAgain(text, word string, numbers []int) string {
	switch word {
	case "run":
		trace, _ := run.Run(text, numbers)
		return endAgain(printsOf(trace), trace.Status, trace.At)
	case "races":
		pairs, _ := races.Find(text, numbers)
		return pairsAgain(pairs, "-")
	case "calls":
		pairs, _ := calls.Calls(text)
		return pairsAgain(pairs, ">")
	case "idle":
		idle, _ := defs.Idle(text)
		return listAgain(idle, "%d", " ")
	case "quiet":
		quiet, _ := effects.Quiet(text)
		return listAgain(quiet, "%d", " ")
	}
	return "ok"
}

func valueAgain(text string, node, nodes int) string {
	if node < 0 || node >= nodes {
		return "?"
	}
	values, _ := consts.Values(text)
	return []string{"no", fmt.Sprint("always ", values[node].Num), "any"}[values[node].State]
}

func outcomesAgain(text string) string {
	outcomes, fault := tries.All(text)
	if fault.Code == api.ErrFull {
		return "full"
	}
	var out []string
	for _, o := range outcomes {
		out = append(out, fmt.Sprint(endAgain(o.Prints, o.Status, o.At), " x ", o.Runs))
	}
	return listAgain(out, "%s", "; ")
}

// deskAgain answers all lines.
func deskAgain(text, questions string) string {
	lines := strings.SplitAfter(questions, "\n")
	if lines[len(lines)-1] == "" {
		lines = lines[:len(lines)-1]
	}
	if len(questions) > 4000 || len(lines) > 40 {
		return "error size\n"
	}
	out := ""
	for _, line := range lines {
		out += lineAgain(text, strings.TrimSuffix(line, "\n")) + "\n"
	}
	return out
}

// lineMade answers a line, by chance: most of them ask something.
func lineMade(r *rand.Rand) string {
	words := []string{"check", "types", "run", "run", "outcomes", "calls", "idle", "quiet", "races", "races", "value", "value", "value", "points", "points", "points", "fold", "code"}
	line := words[r.Intn(len(words))]
	many := 0
	switch line {
	case "run", "races":
		many = r.Intn(8)
	case "value", "points":
		many = 1
	}
	if r.Intn(20) == 0 {
		many = r.Intn(3)
	}
	for range many {
		line += " " + strconv.Itoa([]int{r.Intn(4), r.Intn(30), r.Intn(100), r.Intn(100), r.Intn(200), r.Intn(200), -r.Intn(30), r.Intn(2000000000)}[r.Intn(8)])
	}
	if r.Intn(12) == 0 {
		place := r.Intn(len(line) + 1)
		line = line[:place] + []string{" ", "0", "-", "\r", "x", "\n", ""}[r.Intn(7)] + line[min(place+r.Intn(2), len(line)):]
	}
	return line
}

// questionsMade answers lines, by chance, in some cases too many.
func questionsMade(r *rand.Rand) string {
	questions := ""
	for range r.Intn(20) {
		questions += lineMade(r) + "\n"
	}
	if r.Intn(15) == 0 {
		questions += strings.Repeat("check\n", 30)
	}
	return questions + []string{"", "check", "\n", "what"}[r.Intn(4)]
}

// TestDeskAgain holds answers about made programs against those that are put together of what all packages tell; each kind of answer has to be there often enough.
func TestDeskAgain(t *testing.T) {
	r := rand.New(rand.NewSource(40))
	seen := map[string]int{}
	for round := range 900 {
		text := []string{fewMade(r), fewMade(r), livelyMade(r), made(r), setterMade(r), racyMade(r), thingsMade(r), deedsMade(r), sureMade(r), chainMade(r), boxesMade(r), ringsMade(r)}[r.Intn(12)]
		if round%6 == 0 {
			text = spoilt(r, text)
		}
		questions := questionsMade(r)
		got, want := desk.Run(text, questions), deskAgain(text, questions)
		if got != want {
			t.Fatalf("%q:\n%snot\n%sof\n%s", questions, got, want, text)
		}
		for _, line := range strings.Split(got, "\n") {
			for _, word := range strings.Fields(line) {
				seen[word]++
			}
		}
	}
	for _, word := range []string{"ok", "done", "fell", "stuck", "out", "x", "full", "none", "?", "always", "any", "no", "fault", "error"} {
		if seen[word] < 20 {
			t.Error("too few answers say so:", word, seen[word])
		}
	}
}

// FuzzDesk holds answers about any text to any lines.
func FuzzDesk(f *testing.F) {
	r := rand.New(rand.NewSource(41))
	for range 20 {
		f.Add(fewMade(r), questionsMade(r))
		f.Add(thingsMade(r), questionsMade(r))
	}
	f.Fuzz(func(t *testing.T, text, questions string) {
		if got, want := desk.Run(text, questions), deskAgain(text, questions); got != want {
			t.Fatalf("%q:\n%snot\n%sof\n%q", questions, got, want, text)
		}
	})
}
