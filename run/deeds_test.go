package run

import (
	"slices"
	"strconv"
	"strings"
	"testing"

	"ravel/check"
	"ravel/syntax"
)

// tellDeeds tells deeds by a text: of each the thread, what it does, the mark that stands at its node, on what, and the room.
func tellDeeds(t *testing.T, marked string, script []int) string {
	t.Helper()
	text, places := unmark(marked)
	nodes, _ := syntax.Parse(text)
	read, fault := check.Read(text)
	if fault.Code != 0 {
		t.Fatal(text, fault)
	}
	words := []string{"reads", "writes", "begins", "meets", "sends", "takes", "shuts", "finds"}
	var out []string
	for _, d := range Deeds(read, script) {
		word := strconv.Itoa(d.Thread) + " " + words[d.Doing] + places[nodes[d.Node].At] + " " + strconv.Itoa(d.On)
		if d.Room > 0 {
			word += " of " + strconv.Itoa(d.Room)
		}
		out = append(out, word)
	}
	return strings.Join(out, "; ")
}

// TestDeeds: what is done, in order; variables and fields, and channels, are numbered as they come up.
func TestDeeds(t *testing.T) {
	for _, x := range []struct {
		text, want string
		script     []int
	}{
		{"func main(){}", "", nil},
		{"func main(){x:=1;y:=2;@1y=3;@2x=@3y;@4y=@5x}", "0 writes@1 1; 0 reads@3 1; 0 writes@2 2; 0 reads@5 2; 0 writes@4 1", nil},
		{"type A struct{n int;k int};func f()*A{return new(A)};func main(){@1f().n=1;f().k=f()@2.n}", "0 writes@1 1; 0 reads@2 2; 0 writes 3", nil},
		{"func main(){@1go func(){}();@2go func(){@3go func(){}()}();print(1);print(2)}", "0 begins@1 1; 0 begins@2 2; 2 begins@3 3", []int{0, 2}},
		{"func main(){c:=make(chan int);go func(){@1c<-1}();@2<-@3c}", "0 begins 1; 0 reads@3 1; 1 reads@1 1; 1 meets@1 0", nil},
		{"func main(){c:=make(chan int);go func(){<-@1c}();@2c<-2}", "0 begins 1; 0 reads@2 1; 1 reads@1 1; 0 meets@2 1", nil},
		{"func f()chan int{return make(chan int,3)};func g(c chan int){@1c<-1;@2<-c;@3close(c);@4<-c};func main(){@5f()<-1;g(f())}",
			"0 sends@5 1 of 3; 0 reads@1 1; 0 sends@1 2 of 3; 0 reads 1; 0 takes@2 2 of 3; 0 reads 1; 0 shuts@3 2 of 3; 0 reads 1; 0 finds@4 2 of 3", nil},
		// What is closed, and not empty, is taken from as else; that without room is empty.
		{"func f(c chan int){c<-1;close(c);select{@1case <-c:};select{@2case <-c:}};func main(){f(make(chan int,1))}",
			"0 reads 1; 0 sends 1 of 1; 0 reads 1; 0 shuts 1 of 1; 0 reads 1; 0 takes@1 1 of 1; 0 reads 1; 0 finds@2 1 of 1", nil},
		{"func f(c chan int){@1close(c);@2<-c};func main(){f(make(chan int))}", "0 reads 1; 0 shuts@1 1; 0 reads 1; 0 finds@2 1", nil},
		// What falls is not done.
		{"func f(c chan int){@1close(c);@2close(c)};func main(){f(make(chan int))}", "0 reads 1; 0 shuts@1 1; 0 reads 1", nil},
		{"func f(c chan int){@1close(c);@2c<-1};func main(){f(make(chan int,1))}", "0 reads 1; 0 shuts@1 1 of 1; 0 reads@2 1", nil},
	} {
		if got := tellDeeds(t, x.text, x.script); got != x.want {
			t.Errorf("%q:\n%q, not\n%q", x.text, got, x.want)
		}
	}
}

// TestDeedsAgain: the same deeds each time; by another script other ones.
func TestDeedsAgain(t *testing.T) {
	text, _ := unmark(two)
	read, _ := check.Read(text)
	first := Deeds(read, []int{2, 1})
	for range 20 {
		if again := Deeds(read, []int{2, 1}); !slices.Equal(first, again) {
			t.Fatal(first, again)
		}
	}
	if other := Deeds(read, nil); slices.Equal(first, other) {
		t.Error(first)
	}
}
