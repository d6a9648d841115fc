package code

import (
	"bytes"
	"encoding/binary"
	"math"
	"reflect"
	"slices"
	"testing"

	"ravel/api"
)

// written answers numbers as bytes, by the library, which writes them in the same way.
func written(numbers ...int) []byte {
	var out []byte
	for _, number := range numbers {
		out = binary.AppendVarint(out, int64(number))
	}
	return out
}

// sameCode tells whether two are the same; an empty list may be nil or not.
func sameCode(a, b api.Code) bool {
	sameFn := func(f, g api.Fn) bool {
		return f.Params == g.Params && f.Slots == g.Slots && f.From == g.From && slices.Equal(f.Takes, g.Takes)
	}
	return slices.Equal(a.Ops, b.Ops) && slices.EqualFunc(a.Fns, b.Fns, sameFn) && slices.EqualFunc(a.Kinds, b.Kinds, slices.Equal)
}

// holdBytes holds that code is written so, and is read again.
func holdBytes(t *testing.T, c api.Code, want []byte) {
	t.Helper()
	got, wrong := Bytes(c)
	if wrong != api.OK || !bytes.Equal(got, want) {
		t.Errorf("%v: %d, %v, not %v", c, wrong, got, want)
	}
	if again, wrong := Read(want); wrong != api.OK || !sameCode(again, c) {
		t.Errorf("%v: %d, %v, not %v", want, wrong, again, c)
	}
}

// TestBytes: Q4: what is written.
func TestBytes(t *testing.T) {
	holdBytes(t, api.Code{Ops: orders("num -1; ret"), Fns: []api.Fn{{}}}, []byte("\x04\x02\x00\x02\x01\x00\x28\x00\x00\x00\x00\x00\x00"))
	c := api.Code{
		Ops:   orders("chan 8; select 1; case 0 3; ret; num 300; ret"),
		Fns:   []api.Fn{{Slots: 1}, {Params: 1, Slots: 64, From: 4, Takes: []int{63, 1200, 0}}},
		Kinds: [][]int{{0}, {3, 1, -1, 0}},
	}
	holdBytes(t, c, []byte{
		12, 4, 4,
		14, 16, 0, 56, 2, 0, 58, 0, 6, 40, 0, 0, 2, 0xd8, 4, 0, 40, 0, 0,
		0, 2, 0, 0,
		2, 0x80, 1, 8, 6, 126, 0xe0, 0x12, 0,
		2, 0,
		8, 6, 2, 1, 0,
	})
	for _, number := range []int{0, 1, -1, 2, -2, 63, -63, 64, -64, -65, 65, 8191, 8192, -8192, -8193, 1<<20 - 1, 1 << 20, -1 << 20, -1<<20 - 1, 1<<34 - 1, 1 << 34, 1<<55 - 1, 1 << 55,
		1<<62 - 1, 1 << 62, -1 << 62, -1<<62 - 1, math.MaxInt - 1, math.MaxInt, math.MinInt, math.MinInt + 1} {
		c := api.Code{Ops: []api.Op{{Do: api.OpNum, A: number}, {Do: api.OpRet}}, Fns: []api.Fn{{}}}
		holdBytes(t, c, slices.Concat(written(2, 1, 0, api.OpNum), written(number), written(0, api.OpRet, 0, 0, 0, 0, 0, 0)))
	}
	least := api.Code{Ops: []api.Op{{Do: api.OpNum, A: math.MinInt}, {Do: api.OpRet}}, Fns: []api.Fn{{}}}
	if got, _ := Bytes(least); !bytes.Equal(got[4:14], []byte{255, 255, 255, 255, 255, 255, 255, 255, 255, 1}) {
		t.Error(got)
	}
}

// TestBytesFaults: Q4: Check's error; then there are no bytes.
func TestBytesFaults(t *testing.T) {
	for _, x := range []struct {
		code api.Code
		want api.Errno
	}{
		{api.Code{}, api.ErrSize},
		{codeOf("num; ret; jump 3"), api.ErrRange},
		{codeOf("num; ret; jump 2"), api.OK},
		{codeOf("drop"), api.ErrForm},
	} {
		if got, wrong := Bytes(x.code); wrong != x.want || (wrong != api.OK) != (len(got) == 0) {
			t.Errorf("%v: %v, %d, not %d", x.code, got, wrong, x.want)
		}
	}
}

// holdRead holds what is wrong with bytes.
func holdRead(t *testing.T, b []byte, want api.Errno) {
	t.Helper()
	kept := slices.Clone(b)
	c, wrong := Read(b)
	if wrong != want || wrong != api.OK && (c.Ops != nil || c.Fns != nil || c.Kinds != nil) {
		t.Errorf("%v: %d, %v, not %d", b, wrong, c, want)
	}
	if !bytes.Equal(kept, b) {
		t.Errorf("%v is now %v", kept, b)
	}
}

// TestReadSyntax: Q4: ErrSyntax.
func TestReadSyntax(t *testing.T) {
	whole, _ := Bytes(codeOf("num 300; ret; chan 8; select 1; case 0 3", api.Fn{Slots: 3, Takes: []int{1, 2}}))
	holdRead(t, whole, api.OK)
	for end := range whole {
		holdRead(t, whole[:end], api.ErrSyntax)
		// What lies behind the length is not read.
		holdRead(t, slices.Clone(whole)[:end], api.ErrSyntax)
	}
	for _, more := range [][]byte{{0}, {128}, {1}, {255, 1}, whole} {
		holdRead(t, slices.Concat(whole, more), api.ErrSyntax)
	}
	holdRead(t, nil, api.ErrSyntax)
	holdRead(t, []byte{}, api.ErrSyntax)
	// A number with more bytes than it needs, or more than there may be, or of too many bits; at the first place and at the A of the first order.
	ahead, behind := written(2, 1, 0, api.OpNum), written(0, api.OpRet, 0, 0, 0, 0, 0, 0)
	most := bytes.Repeat([]byte{255}, 9)
	for _, x := range []struct {
		number []byte
		want   api.Errno
	}{
		{[]byte{0}, api.OK},
		{[]byte{128, 1}, api.OK},
		{[]byte{128, 0}, api.ErrSyntax},
		{[]byte{130, 0}, api.ErrSyntax},
		{[]byte{255, 128, 0}, api.ErrSyntax},
		{[]byte{128, 128, 1}, api.OK},
		{slices.Concat(most[:8], []byte{127}), api.OK},
		{slices.Concat(most, []byte{1}), api.OK},
		{slices.Concat(most, []byte{0}), api.ErrSyntax},
		{slices.Concat(most, []byte{2}), api.ErrSyntax},
		{slices.Concat(most, []byte{3}), api.ErrSyntax},
		{slices.Concat(most, []byte{127}), api.ErrSyntax},
		{slices.Concat(most, []byte{128}), api.ErrSyntax},
		{slices.Concat(most, []byte{129, 0}), api.ErrSyntax},
		{slices.Concat(most, []byte{129, 1}), api.ErrSyntax},
		{slices.Concat(bytes.Repeat([]byte{128}, 9), []byte{1}), api.OK},
		{slices.Concat(bytes.Repeat([]byte{128}, 10), []byte{1}), api.ErrSyntax},
		{slices.Concat(bytes.Repeat([]byte{128}, 40), []byte{0}), api.ErrSyntax},
	} {
		holdRead(t, slices.Concat(ahead, x.number, behind), x.want)
		if x.want == api.ErrSyntax {
			holdRead(t, x.number, api.ErrSyntax)
			holdRead(t, slices.Concat(x.number, behind), api.ErrSyntax)
		}
	}
}

// TestReadSize: Q4: ErrSize: of what there are too many, or fewer than none, ahead of what comes behind it; not ahead of what stands ahead of it.
func TestReadSize(t *testing.T) {
	for _, many := range []int{10001, 1 << 40, math.MaxInt, -1, -10000, math.MinInt} {
		for _, ahead := range [][]int{
			{}, {2}, {2, 1}, // orders, functions, kinds
			{1, 1, 0, api.OpNum, 0, 0, 0, 0, 0},             // takes
			{1, 2, 0, api.OpNum, 0, 0, 0, 0, 0, 0, 0, 0, 0}, // of the second one
			{0, 1, 1, 0, 0, 0, 0},                           // numbers of a kind
			{0, 0, 2, 1, 0},
		} {
			for _, behind := range [][]byte{nil, {0}, {128}, {128, 0}, written(-1, -1, -1), bytes.Repeat([]byte{255}, 30)} {
				holdRead(t, slices.Concat(written(ahead...), written(many), behind), api.ErrSize)
			}
		}
		holdRead(t, slices.Concat([]byte{128, 0}, written(many)), api.ErrSyntax)
		holdRead(t, slices.Concat(written(2), []byte{128, 0}, written(many)), api.ErrSyntax)
	}
	holdRead(t, written(10000), api.ErrSyntax)
	holdRead(t, written(0, 10000, 10000), api.ErrSyntax)
	// As many as may be read are read, before Check says that there are too many.
	orders := make([]int, 3*10000)
	holdRead(t, written(slices.Concat([]int{10000, 0, 0}, orders)...), api.ErrSize)
	holdRead(t, written(slices.Concat([]int{10000, 0, 0}, orders[1:])...), api.ErrSyntax)
	holdRead(t, written(slices.Concat([]int{0, 10000, 0}, orders, orders[:10000])...), api.ErrSize)
	holdRead(t, written(slices.Concat([]int{2, 1, 0, api.OpNum, 0, 0, api.OpRet, 0, 0, 0, 0, 0, 10000}, orders[:10000])...), api.ErrRange)
	holdRead(t, written(slices.Concat([]int{2, 1, 1, api.OpNum, 0, 0, api.OpRet, 0, 0, 0, 0, 0, 0, 10000}, orders[:10000])...), api.ErrRange)
}

// TestReadCheck: Q4: then what Check says.
func TestReadCheck(t *testing.T) {
	holdRead(t, written(0, 0, 0), api.ErrSize)
	holdRead(t, written(0, 1, 0, 0, 0, 0, 0), api.ErrRange)
	holdRead(t, written(1, 1, 0, api.OpDrop, 0, 0, 0, 0, 0, 0), api.ErrForm)
	holdRead(t, written(2, 1, 0, api.OpNum, 0, 1, api.OpRet, 0, 0, 0, 0, 0, 0), api.ErrRange)
	holdRead(t, written(2, 1, 0, api.OpNum, 0, 0, api.OpRet, 0, 0, 0, 0, 0, 0), api.OK)
	holdRead(t, written(2, 1, 1, api.OpNum, 0, 0, api.OpRet, 0, 0, 0, 0, 0, 0, 0), api.ErrRange)
	// A number that would be right with fewer bits is another one.
	holdRead(t, written(2, 1, 0, api.OpNum, 0, 1<<32, api.OpRet, 0, 0, 0, 0, 0, 0), api.ErrRange)
	// What is behind is told ahead of Check.
	holdRead(t, written(0, 0, 0, 0), api.ErrSyntax)
}

// TestOwnMemory: P3: what is handed in is neither changed nor kept, and no two lists that come out share memory.
func TestOwnMemory(t *testing.T) {
	const text = "type A struct{n int};type B struct{};type I interface{m();k()};func(a *A)m(){};func main(){x:=1;y:=2;f:=func(){print(x)};g:=func(){print(x+y)};f();g()}"
	c, _ := Make(text)
	b, _ := Bytes(c)
	kept, _ := Make(text)
	spoil := func(c api.Code) {
		// Each list is written over up to its capacity, and has to be its own.
		lists := [][]int{}
		for i := range c.Fns {
			lists = append(lists, c.Fns[i].Takes)
		}
		lists = append(lists, c.Kinds...)
		for i, list := range lists {
			for k := range list[:cap(list)] {
				list[:cap(list)][k] = 1000 + i
			}
		}
		for i, list := range lists {
			if slices.ContainsFunc(list, func(number int) bool { return number != 1000+i }) {
				t.Error(lists)
			}
		}
		clear(c.Ops)
	}
	read, _ := Read(b)
	if !sameCode(read, kept) || !reflect.DeepEqual(c, kept) {
		t.Error(read, c, kept)
	}
	old := slices.Clone(b)
	spoil(read)
	spoil(c)
	if again, _ := Make(text); !reflect.DeepEqual(again, kept) || !bytes.Equal(b, old) {
		t.Error(again, kept)
	}
	read, _ = Read(b)
	clear(b)
	if !sameCode(read, kept) {
		t.Error(read)
	}
}

// TestBehindLengths: P3: what lies behind the lengths of lists is neither read nor written: here it would be wrong.
func TestBehindLengths(t *testing.T) {
	takes, kind := []int{0, -1}, []int{0, -7}
	wide := api.Code{
		Ops:   append(orders("num; ret"), api.Op{Do: 77})[:2],
		Fns:   []api.Fn{{Slots: 1, Takes: takes[:1]}, {Slots: -1}}[:1],
		Kinds: [][]int{kind[:1], nil}[:1],
	}
	holdBytes(t, wide, written(2, 1, 1, api.OpNum, 0, 0, api.OpRet, 0, 0, 0, 1, 0, 1, 0, 1, 0))
	if wide.Ops[:3][2].Do != 77 || wide.Fns[:2][1].Slots != -1 || takes[1] != -1 || kind[1] != -7 {
		t.Error(wide, takes, kind)
	}
}
