package consts

import (
	"fmt"
	"slices"
	"strconv"
	"strings"
	"testing"

	"ravel/api"
	"ravel/check"
	"ravel/syntax"
)

// unmark takes the marks (@ and a sign) out of a text, and answers which ones stood ahead of which byte.
func unmark(marked string) (string, map[int]string) {
	var text strings.Builder
	marks := map[int]string{}
	for i := 0; i < len(marked); i++ {
		if marked[i] == '@' {
			i++
			marks[text.Len()] += marked[i : i+1]
			continue
		}
		text.WriteByte(marked[i])
	}
	return text.String(), marks
}

// tell asks both faces of a marked text: of each expression that is marked by a small letter, this and what is known of it (its number, `?` for any, `-` if it is not there); then the stations that go of those that are marked by other signs; each by itself sorted.
func tell(t *testing.T, marked string) (values, goes string) {
	t.Helper()
	text, marks := unmark(marked)
	nodes, fault := syntax.Parse(text)
	known, first := Values(text)
	ones, second := Goes(text)
	if fault.Code+first.Code+second.Code != api.OK || len(known) != len(nodes) || len(ones) != len(nodes) {
		t.Fatalf("%q: %v, %v, %v; %d, %d", text, fault, first, second, len(known), len(ones))
	}
	var a, b []string
	for number, n := range nodes {
		for _, mark := range marks[n.At] {
			isLetter, isExpr := mark >= 'a' && mark <= 'z', n.Kind >= api.KNumber
			if isLetter && isExpr && n.Kind != api.KLit {
				a = append(a, string(mark)+word(known[number]))
			}
			isStation := check.IsFunction(n.Kind) || n.Kind == api.KSig || n.Kind > api.KBlock && n.Kind <= api.KPrint
			if !isLetter && isStation && ones[number] == 1 {
				b = append(b, string(mark))
			}
		}
		if known[number].State != 1 && known[number].Num != 0 || ones[number]>>1 != 0 {
			t.Errorf("%q: %d: %v, %d", text, number, known[number], ones[number])
		}
	}
	slices.Sort(a)
	slices.Sort(b)
	return strings.Join(a, " "), strings.Join(b, "")
}

func word(k api.Known) string {
	switch k.State {
	case 0:
		return "-"
	case 1:
		return strconv.Itoa(k.Num)
	case 2:
		return "?"
	}
	return fmt.Sprint(k)
}

// hold holds what is told of a marked text.
func hold(t *testing.T, marked, values, goes string) {
	t.Helper()
	gotValues, gotGoes := tell(t, marked)
	if gotValues != values || gotGoes != goes {
		t.Errorf("%q:\n%q and %q,\nnot\n%q and %q", marked, gotValues, gotGoes, values, goes)
	}
}

// within holds what is told of statements in a function with the params p, int, and q, bool.
func within(t *testing.T, stmts, values, goes string) {
	t.Helper()
	hold(t, "type A struct{n int;b bool;a *A;f func(int)int};func(a *A)m(n int)int{return n};func f(n int)int{return n};func g(p int,q bool){"+stmts+"};func main(){g(1,true)}", values, goes)
}

// TestNumbers: L1: numbers, names of variables, operators of what is always a number.
func TestNumbers(t *testing.T) {
	within(t, "print(@a0);print(@b999999999);print(@ctrue);print(@dfalse)", "a0 b999999999 c1 d0", "")
	within(t, "x:=@a7;y:=@bx;x=@cx@d+@ey;print(@fx);print(@gy);b:=@htrue;b=@i!@jb;print(@kb)", "a7 b7 c7 d14 e7 f14 g7 h1 i0 j1 k0", "")
	within(t, "print(7@a+2);print(7@b-9);print(7@c*2);print(7@d/2);print(7@e%2);print(@f-7@g/2);print(@h-7@i%2);print(@j-@k-7)", "a9 b-2 c14 d3 e1 f-7 g-3 h-7 i-1 j7 k-7", "")
	within(t, "print(1@a<2);print(2@b<2);print(2@c<=2);print(3@d<=2);print(2@e>1);print(2@f>2);print(2@g>=2);print(2@h>=3)", "a1 b0 c1 d0 e1 f0 g1 h0", "")
	within(t, "print(1@a==1);print(1@b==2);print(1@c!=1);print(1@d!=2);print(true@e==false);print(true@f!=false);print((1<2)@g==true)", "a1 b0 c0 d1 e0 f1 g1", "")
	within(t, "print(@a!true);print(@b!(1>2))", "a0 b1", "")
	// Numbers go round; the least one over -1 is itself.
	within(t, "x:=65536*65536*32768;x=@ax@b*65536;print(@cx);y:=x@d-1;print(@e-x);print(x@f/@g-1);print(x@h%-1);print(y@i+1@j==x)",
		"a140737488355328 b-9223372036854775808 c-9223372036854775808 d9223372036854775807 e-9223372036854775808 f-9223372036854775808 g-1 h0 i-9223372036854775808 j1", "")
	// By what is always 0: any; so is what is made of that.
	within(t, "x:=0;print(1@a/@bx);print(0@c%x);print(p@d/0);y:=1@e/0@f*0;print(@gy);print(5@h/y);print(0@i/5)", "a? b0 c? d? e? f? g? h? i0", "")
}

// TestAny: L1: what is any, and what is made of it.
func TestAny(t *testing.T) {
	within(t, "print(@ap);print(@bq);print(@c-p);print(@d!q);print(p@e+1);print(1@f-p);print(p@g*0);print(0@h*p);print(p@i-p);print(p@j==p);print(p@k<1);print(1@l/p);print(p@m/1)", "a? b? c? d? e? f? g? h? i? j? k? l? m?", "")
	// What is called, received, in fields; and what stands within it.
	within(t, "x:=3;print(f@a(@bx));c:=make(chan int,1);print(@c<-c);a:=new(A);print(a@d.n);print(a@e.b);print(a.m@f(x@g+1));print(a.f@h(@i2))", "a? b3 c? d? e? f? g4 h? i2", "")
	within(t, "f@a(@b1);c:=make(chan bool);@c<-c;go f@d(@e2);panic(@f3)", "a? b1 c? d? e2 f3", "")
	// Things are held against each other.
	within(t, "a:=new(A);print(a@a==nil);print(nil@b!=a);print(a@c==a);c:=make(chan int);print(c@d==c);print(f@e==nil);print(a@f==new(A).a)", "a? b? c? d? e? f?", "")
	// Shared ones are any, within the literal and outside of it; also if it just sets them, or stands where one does not come.
	within(t, "x:=@a1;y:=2;h:=func(){print(@bx)};print(@cx);print(@dy);h()", "a1 b? c? d2", "")
	within(t, "x:=1;x=@a2;if false{go func(){x=@b3}()};print(@cx)", "a2 b3 c?", "")
	within(t, "print(@ap);h:=func(){p=@b3}", "a? b3", "")
	// Params are any also if just one value is handed over, or nobody calls; they can be set.
	hold(t, "func f(n int)int{m:=@an;n=@b4;return @cn@d+m};func main(){print(f@e(@f1))}", "a? b4 c4 d? e? f1", "")
	hold(t, "type A struct{};func(a *A)m(n int,b bool){print(@an);print(@bb)};func main(){h:=func(n int)int{print(@cn);return @d5};print(h@e(1))}", "a? b? c? d5 e?", "")
	// What a case receives.
	within(t, "c:=make(chan int);x:=1;select{case x:=<-c:print(@ax);x=@b2;print(@cx);case <-c:print(@dx);case y:=<-c:for y<9{print(@ey);y=@f3};print(@gx)};print(@hx)", "a? b2 c2 d1 e? f3 g1 h1", "")
}

// TestShort: L1: `&&` and `||`.
func TestShort(t *testing.T) {
	within(t, "print(false@a&&false);print(true@b&&false);print(true@c&&true);print(false@d&&true)", "a0 b0 c1 d0", "")
	within(t, "print(false@a||false);print(true@b||false);print(true@c||true);print(false@d||true)", "a0 b1 c1 d1", "")
	within(t, "print(q@a&&false);print(false@b&&q);print(q@c&&true);print(true@d&&q);print(q@e&&q)", "a0 b0 c? d? e?", "")
	within(t, "print(q@a||false);print(false@b||q);print(q@c||true);print(true@d||q);print(q@e||q)", "a? b? c1 d1 e?", "")
	// If the left side decides, the right one is not there, nor what is within it; if the right one does, the left one is.
	within(t, "print(@afalse&&@btrue);print(@ctrue||@dfalse);print(@efalse&&(@f1@g<@hp@i+2));print(@jtrue||@k!@lq)", "a0 b- c1 d- e0 f- g- h- i- j1 k- l-", "")
	within(t, "print(@aq@b&&@cfalse);print(@dq@e||@ftrue);print(@gtrue@h&&@i!@jtrue)", "a? b0 c0 d? e1 f1 g1 h0 i0 j1", "")
	// Rows of them.
	within(t, "print(false&&@aq@b&&@cq);print(true@d||@eq@f||@gq);print(q@h&&false@i&&@jq);print((false&&@kq)@l||@mtrue)", "a- b0 c- d1 e- f1 g- h0 i0 j- k- l1 m1", "")
	within(t, "x:=1;b:=x<0@a&&f@b(@c2)>1;print(@db);if x==1@e||1/@f0==1{print(@gx)}else{print(@hx)}", "a0 b- c- d0 e1 f- g1 h-", "")
	// A call on the right side can stop the run; this decides nothing.
	within(t, "print(f@a(@b1)>0@c&&@dfalse)", "a? b1 c0 d0", "")
}

// TestIf: L1, L3: parts of a KIf.
func TestIf(t *testing.T) {
	within(t, "x:=1;@1if x<2{@2print(@a3)}else{@3print(@b4)};@4print(@cx)", "a3 b- c1", "124")
	within(t, "x:=1;@1if x>2{@2print(@a3)}else{@3print(@b4)};@4print(@cx)", "a- b4 c1", "134")
	within(t, "x:=1;@1if q{@2x=2}else{@3x=3};@4print(@ax)", "a?", "1234")
	within(t, "x:=1;@1if q{@2x=2}else{@3x=2};@4print(@ax)", "a2", "1234")
	within(t, "x:=1;@1if q{@2x=2};@4print(@ax)", "a?", "124")
	within(t, "x:=1;@1if q{@2x=1};@4print(@ax)", "a1", "124")
	// From a part that does not go nothing comes.
	within(t, "x:=1;if x==1{x=2}else{x=3};print(@ax)", "a2", "")
	within(t, "x:=1;if x!=1{x=2};print(@ax);if x==1{x=3};print(@bx)", "a1 b3", "")
	within(t, "x:=1;if q{x=2;return};print(@ax);if q{x=3;panic(1)}else{x=4};print(@bx)", "a1 b4", "")
	// Empty parts.
	within(t, "@1if true{};@2print(1);@3if false{};@4print(1);@5if q{};@6print(1)", "", "123456")
	within(t, "@1if true{}else{@2print(1)};@3if false{}else{@4print(1)};@5if q{}else{@6print(1)};@7print(1)", "", "134567")
	within(t, "@1if true{@2print(1)}else{};@3if false{@4print(1)}else{};@5if q{@6print(1)}else{};@7print(1)", "", "123567")
	within(t, "@1if true{@2return}else{};@3print(1)", "", "12")
	within(t, "@1if false{@2return}else{};@3print(1)", "", "13")
	within(t, "@1if true{}else{@2return};@3print(1)", "", "13")
	within(t, "@1if false{}else{@2return};@3print(1)", "", "12")
	within(t, "@1if false{}else{};@2print(1);@3if true{}else{};@4print(1)", "", "1234")
	// An if behind an else.
	within(t, "x:=2;@1if x==1{@2print(1)}else @3if x==2{@4print(2)}else @5if x==3{@6print(3)}else{@7print(4)};@8print(5)", "", "1348")
	within(t, "@1if true{}else @2if q{@3print(1)};@4print(1)", "", "14")
	within(t, "@1if false{}else @2if q{@3print(1)};@4print(1)", "", "1234")
	within(t, "@1if false{@2return}else @3if @afalse{@4return}else @5if @btrue{@6return};@7print(1)", "a0 b1", "1356")
	// At the end of a function, and of a loop.
	hold(t, "@Ffunc main@E(){@1if true{@2panic(1)}}", "", "12F")
	hold(t, "@Ffunc main@E(){@1if false{@2panic(1)}}", "", "1EF")
	within(t, "@1for q{@2if true{}else{@3break};@4if false{}};@5print(1)", "", "1245")
	within(t, "@1for true{@2if false{@3break}};@4print(1)", "", "12")
	within(t, "@1for true{@2if true{@3break}};@4print(1)", "", "1234")
}

// TestFor: L1, L3: loops.
func TestFor(t *testing.T) {
	within(t, "@0x:=1;@1for x@a<2{@2print(@bx)};@3print(@c2)", "a1 b1 c-", "012")
	within(t, "@1for false{@2print(@a1)};@3print(@b2)", "a- b2", "13")
	within(t, "@1for q{@2print(@a1)};@3print(@b2)", "a1 b2", "123")
	within(t, "@1for true{};@2print(1)", "", "1")
	within(t, "@1for false{};@2print(1);@3for q{};@4print(1)", "", "1234")
	hold(t, "@Ffunc main@E(){@1for true{}}", "", "1F")
	hold(t, "@Ffunc main@E(){@1for true{@2break}}", "", "12EF")
	// What comes round, too.
	within(t, "x:=1;for @ax@b<2{print(@cx);x=@dx+1};print(@ex)", "a? b? c? d? e?", "")
	within(t, "x:=1;for @ax<2{x=@b1};print(@cx)", "a1 b1 c-", "")
	within(t, "x:=1;y:=1;for q{y=@ax;x=@b2;print(@cy)};print(@dy)", "a? b2 c? d?", "")
	within(t, "x:=1;for x<2{x=@a2;break};print(@bx)", "a2 b2", "")
	within(t, "x:=1;for true{x=2;@1if q{@2break;@3x=3}};@4print(@ax)", "a2", "124")
	within(t, "x:=1;for x<2{x=2;@1if q{@2break;@3x=3}};@4print(@ax)", "a?", "124")
	// Stations, and values, go together: neither is known by itself.
	within(t, "x:=1;for q{if x@a!=1{@1x=@b2};print(@cx)};print(@dx)", "a0 b- c1 d1", "")
	within(t, "x:=1;y:=1;for q{if x@a!=1{@1y=@b2};if y!=1{@2x=2}};print(@cx)", "a0 b- c1", "")
	within(t, "x:=1;for q{if x==1{x=@a1}else{@1x=@bx+1}};print(@cx)", "a1 b- c1", "")
	// One is any, so the others are.
	within(t, "x:=1;y:=1;for q{if x@a!=1{@1y=@b2};if y!=1{@2x=2};x=p};print(@cx);print(@dy)", "a? b2 c? d?", "12")
	// A part that goes later than others has all that is known ahead of it, not just what is new.
	within(t, "x:=1;y:=5;for q{if x@a==2{@1print(@by)}else{@2print(@cy)};x=@dx+1};print(@ey)", "a? b5 c5 d? e5", "12")
	// A variable in a loop is another one each time.
	within(t, "i:=0;for i<3{x:=@a1;print(@bx);x=@cx+1;print(@dx);i=i+1}", "a1 b1 c1 d2", "")
	within(t, "x:=0;for q{x:=@a1;print(@bx);x=p};print(@cx)", "a1 b1 c0", "")
	// Loops in loops.
	within(t, "x:=0;y:=0;for q{for q{y=@ax;if q{break}};for y<1{@1y=@b0};@2x=@c5}", "a0 b0 c-", "1")
	within(t, "x:=0;y:=0;for q{for q{y=@ax;if q{break}};for y<p{@1y=@b0};@2x=@c5};print(@dx)", "a? b0 c5 d?", "12")
}

// TestStations: L1, L3: which stations go, and which expressions are theirs.
func TestStations(t *testing.T) {
	hold(t, "@Ffunc main@E(){}", "", "EF")
	hold(t, "@Ffunc main@E(){@1print(@a1);@2return;@3print(@b2)}", "a1 b-", "12EF")
	hold(t, "@Ffunc main@E(){@1panic(@a1);@2print(@b2)}", "a1 b-", "1F")
	hold(t, "@Ffunc main@E(){@1select{};@2print(@b2)}", "b-", "1F")
	hold(t, "type A struct{};type I interface{m(n int)int};@Gfunc(a *A)m@H(n int)int{@1return @a1};@Ffunc main@E(){@2print(@b2)};@Ifunc f@J()bool{@3return @c!true}", "a1 b2 c0", "123EFGHIJ")
}

// TestSelect: L1, L3: all cases go; their channels and values are the select's.
func TestSelect(t *testing.T) {
	within(t, "c:=make(chan int);x:=1;@1select{case c<-@ax@b+1:@2x=@c2;case y:=<-c:@3x=@d2;default:@4x=@e2};@5print(@fx)", "a1 b2 c2 d2 e2 f2", "12345")
	within(t, "c:=make(chan int);x:=1;@1select{case c<-@ax:@2x=@b2;case <-c:};@3print(@cx)", "a1 b2 c?", "123")
	within(t, "c:=make(chan int);@1select{case <-func(n int)chan int{return c}(@a1@b+1):@2return;case c<-func()int{@3return @c3}@d():@4panic(1)};@5print(1)", "a1 b2 c3 d?", "1234")
	within(t, "@1if false{@2select{case make(chan int)<-@a1:@3print(1);default:@4print(1)}};@5print(1)", "a-", "15")
}

// TestParts: L1, L2: what is looked at, and what is not.
func TestParts(t *testing.T) {
	// What stands left is not; what stands ahead of its `.` is.
	within(t, "x:=1;@ax=@b2;c:=new(A);c@c.n=@d3;h:=func(n int)*A{return new(A)};h(@e4)@f.a@g.n=@h5;h(@i6)@j.b=@ktrue", "a- b2 c- d3 e4 f- g- h5 i6 j- k1", "")
	// Of other types nothing is told.
	within(t, "a:=new(A);print(@aa==@bnil);c:=@cmake(chan int);h:=@df;@ea@f.m(@g1);i:=a@h.f", "a- b- c- d- e- f- g1 h-", "")
	// Literals are looked at by themselves, wherever they stand.
	within(t, "x:=1;@1print(@Lfunc@M(n int)int{y:=@a2;@2if y==1{@3print(@b3)};return @cy@d+n}@e(@fx))", "a2 b- c2 d? e? f1", "12LM")
	within(t, "@1if false{@2go @Lfunc@M(){@3print(@a1);@4if @bfalse{@5print(@c2)}}()};return;@6h:=@Nfunc@O(){@7for @dtrue{}}", "a1 b0 c- d1", "1347LMN")
	within(t, "@1x:=false&&@Lfunc@M()bool{@2return @atrue}@b();@3print(@cx)", "a1 b- c0", "123LM")
	// Names within a literal are its own variables, or shared ones.
	within(t, "x:=1;h:=func(x int){y:=@ax;print(@by);x=@c3;print(@dx)};print(@ex);h(2)", "a? b? c3 d3 e1", "")
	// Each statement's.
	within(t, "c:=make(chan int);c<-@a1@b+1;close(c);@1x:=@c3;if q{return};panic(@dx@e*2)", "a1 b2 c3 d3 e6", "1")
}

// TestExample: the numbers of nodes, not just the marks.
func TestExample(t *testing.T) {
	text := "func main(){x:=1;for x<2{print(x)};print(2)}"
	values, _ := Values(text)
	goes, _ := Goes(text)
	one := api.Known{State: 1, Num: 1}
	if !slices.Equal(values, []api.Known{{}, one, {}, one, {State: 1, Num: 2}, one, one, {}, {}, {}, {}, {}, {}, {}, {}}) {
		t.Error(values)
	}
	if !slices.Equal(goes, []int{0, 0, 1, 0, 0, 0, 0, 1, 0, 1, 0, 0, 0, 1, 0}) {
		t.Error(goes)
	}
	values, _ = Values("func f(n int){print(n);m:=0};func main(){}")
	if !slices.Equal(values, []api.Known{3: {State: 2}, 5: {State: 1}, 12: {}}) {
		t.Error(values)
	}
}

// TestFaults: both answer Check's fault, and nothing else.
func TestFaults(t *testing.T) {
	for _, x := range []struct {
		text string
		code api.Errno
	}{
		{"", api.ErrMain},
		{"func f(){print(1)}", api.ErrMain},
		{"func main(n int){print(n)}", api.ErrMain},
		{strings.Repeat(" ", api.MaxText+1), api.ErrSize},
		{"func main(){print(\xff)}", api.ErrRune},
		{"func main(){print(1+)}", api.ErrSyntax},
		{"func main(){print" + strings.Repeat("(", 40) + "1" + strings.Repeat(")", 40) + "}", api.ErrDeep},
		{"func main(){" + strings.Repeat("print(1);", 600) + "}", api.ErrFull},
		{"func main(){print(x)}", api.ErrName},
		{"func main(){x:=1;x:=2}", api.ErrTwice},
		{"func main(){x:=1;x=true}", api.ErrType},
		// What nobody does is checked, too.
		{"func main(){if false{print(1+true)}}", api.ErrType},
		{"func main(){print(false&&1)}", api.ErrType},
		{"func main(){return 1}", api.ErrCount},
		{"func main(){<-make(chan int,9)}", api.ErrRange},
	} {
		_, want := check.Check(x.text)
		if want.Code != x.code {
			t.Fatalf("%q: %v", x.text, want)
		}
		values, first := Values(x.text)
		goes, second := Goes(x.text)
		if first != want || second != want || len(values)+len(goes) > 0 {
			t.Errorf("%q: %v, %v, not %v; %v, %v", x.text, first, second, want, values, goes)
		}
	}
}

// TestNewMemory: P3: what is answered is not kept, and the same is answered again.
func TestNewMemory(t *testing.T) {
	text := "func f(n int)int{x:=1;y:=2;z:=3;for n>0{if x<y{y=y+1}else{z=x};n=n-1;for z<4{z=z+1}};return x+y*z};func main(){print(f(3))}"
	ask := func() string {
		values, first := Values(text)
		goes, second := Goes(text)
		all := fmt.Sprint(values, goes, first, second)
		values, goes = values[:cap(values)], goes[:cap(goes)]
		for i := range values {
			values[i] = api.Known{State: -9, Num: -9}
		}
		for i := range goes {
			goes[i] = -9
		}
		return all
	}
	want := ask()
	for range 50 {
		if got := ask(); got != want {
			t.Fatalf("%s, not %s", got, want)
		}
	}
}

// TestGreat: P1: programs as great as may be.
func TestGreat(t *testing.T) {
	// In each round of the loop one more variable is any, the last one first.
	chain, sets, many := "func f(q bool){", "", 230
	for i := range many {
		name, next := "_"+strconv.FormatInt(int64(i), 36), "_"+strconv.FormatInt(int64(i+1), 36)
		chain += name + ":=0;"
		sets += name + "=" + next + ";"
	}
	last := "_" + strconv.FormatInt(int64(many), 36)
	chain += last + ":=0;for q{" + sets + last + "=1}};func main(){}"
	// As many variables as can be, and loops within one another.
	defines, loops := "", 20
	for i := range 500 {
		defines += "_" + strconv.FormatInt(int64(i), 36) + ":=0;"
	}
	deep := "func f(q bool){" + defines + strings.Repeat("for q{", loops) + "_0=_1;" + strings.Repeat("}", loops) + "};func main(){}"
	// One sum of as many as can be, and one as deep as can be.
	sum := "func main(){print(1" + strings.Repeat("+1", 500) + ")}"
	nest := "func main(){print(" + strings.Repeat("-(1+", 14) + "1" + strings.Repeat(")", 14) + ")}"
	for _, x := range []struct {
		text           string
		numbers, anyOf int
		goes           int
	}{
		{chain, many + 2, many + 1, 2*(many+1) + 5},
		{deep, 501, loops, 500 + loops + 1 + 4},
		{sum, 1001, 0, 3},
		{nest, 15 + 2*14, 0, 3},
	} {
		values, fault := Values(x.text)
		goes, _ := Goes(x.text)
		numbers, anyOf, sum := 0, 0, 0
		for number, value := range values {
			switch value.State {
			case 1:
				numbers++
			case 2:
				anyOf++
			}
			sum += goes[number]
		}
		if fault.Code != api.OK || numbers != x.numbers || anyOf != x.anyOf || sum != x.goes {
			t.Errorf("%.60q: %v: %d numbers, %d are any, %d go", x.text, fault, numbers, anyOf, sum)
		}
	}
}
