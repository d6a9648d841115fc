package whole

import (
	"math/rand"
	"slices"
	"testing"

	"ravel/api"
	"ravel/check"
	"ravel/syntax"
)

// TestCheckAndGo holds made programs, right ones and others, against Go's own type checker: whether they may be, their types, what their names are of.
func TestCheckAndGo(t *testing.T) {
	r := rand.New(rand.NewSource(4))
	right, wrong := 0, 0
	for range 300 {
		text := made(r)
		if _, fault := check.Check(text); fault != (api.Fault{}) {
			t.Fatalf("%v is wrong with\n%s", fault, text)
		}
		for range 4 {
			nodes, _ := syntax.Parse(text)
			answer := askGo(nodes)
			holdCheck(t, text, nodes, answer)
			_, fault := check.Check(text)
			if first := checkAgain(text); fault != first {
				t.Errorf("%v, not %v, is wrong with\n%s", fault, first, text)
			}
			if t.Failed() {
				return
			}
			if len(answer.wrong) == 0 {
				right++
			} else {
				wrong++
			}
			text = spoilt(r, text)
		}
	}
	if right < 400 || wrong < 400 {
		t.Error("too few programs that may be, or that may not:", right, wrong)
	}
}

func holdCheck(t *testing.T, text string, nodes []api.Node, answer goAnswer) {
	t.Helper()
	texts, fault := check.Check(text)
	uses, used := check.Uses(text)
	read, told := check.Read(text)
	if told != fault || !slices.Equal(read.Texts, texts) || !slices.Equal(read.Uses, uses) || len(read.Nodes) != len(texts) {
		t.Errorf("Read says something else, %v, than %v of\n%s", told, fault, text)
	}
	if fault != used || (fault.Code == api.OK) != (len(answer.wrong) == 0) {
		t.Errorf("%v, %v, and Go says %q of\n%s", fault, used, answer.wrong, text)
		return
	}
	if fault.Code != api.OK {
		return
	}
	for number, n := range nodes {
		use, is := answer.uses[number]
		if !is {
			use = -1
		}
		if uses[number] != use || is != (n.Kind == api.KName) {
			t.Errorf("node %d is of %d, and Go says %d in\n%s", number, uses[number], use, text)
		}
		// Of nil Go tells what it is taken for.
		want, is := answer.types[number]
		if n.Kind == api.KNil {
			want = "nil"
		} else if is != (n.Kind >= api.KNumber) {
			t.Errorf("node %d has no type of Go in\n%s", number, text)
		}
		if n.Kind >= api.KNumber && texts[number] != want {
			t.Errorf("node %d is %q, and Go says %q in\n%s", number, texts[number], want, text)
		}
	}
}

// FuzzCheck holds any text that is a program against Go's type checker and the second checker; of any other text both faces answer Parse's fault.
func FuzzCheck(f *testing.F) {
	r := rand.New(rand.NewSource(5))
	for range 20 {
		text := made(r)
		f.Add(text)
		f.Add(spoilt(r, text))
	}
	f.Add("func main(){x:=nil==nil}")
	f.Add("type A struct{a *A};type I interface{};func (a *A) m(i I){a.m(a);i.(*A).a=nil};func main(){}")
	f.Fuzz(func(t *testing.T, text string) {
		nodes, fault := syntax.Parse(text)
		texts, checked := check.Check(text)
		uses, used := check.Uses(text)
		if checked != used || checked != checkAgain(text) || checked.Code != api.OK && len(texts)+len(uses) > 0 {
			t.Errorf("%q: %v, %v, %v", text, checked, used, checkAgain(text))
		}
		if fault.Code == api.OK {
			holdCheck(t, text, nodes, askGo(nodes))
		}
	})
}
