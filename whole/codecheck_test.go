package whole

import (
	"bytes"
	"encoding/binary"
	"fmt"
	"math"
	"math/rand"
	"slices"
	"strings"
	"testing"

	"ravel/api"
	"ravel/code"
)

// This is a second way to check code, and to write and read it: the rules of orders stand in a text, all that can be on the way is laid into one set, and numbers are written by the library.

// orderRules has of each order, from OpNum on, what A and B have to be, how many values it takes and puts, and whether it goes on to the one behind it, to A, to both, or to none.
const orderRules = `any 0 0 1 next
few 0 0 1 next
few 0 1 0 next
few 0 1 0 next
fn 0 0 1 next
kind 0 0 1 next
room 0 0 1 next
few 0 1 1 next
few 0 2 0 next
fn 0 1 1 next
few 0 1 1 next
kind 0 1 1 next
0 0 1 1 next
0 0 1 1 next
sign 0 2 1 next
order 0 0 0 A
order 0 1 0 both
order bit 1 0 short
few 0 1+A 1 next
0 0 1 0 none
0 0 1 0 next
0 0 1 0 none
0 0 2 0 next
0 0 1 1 next
0 0 1 0 next
0 0 1 0 next
few 0 1+A 0 next
few 0 0 0 select
bit order 0 0 never
0 order 0 0 never`

type orderRule struct{ a, b, takes, puts, goes string }

func readOrderRules() []orderRule {
	var out []orderRule
	for line := range strings.SplitSeq(orderRules, "\n") {
		f := strings.Fields(line)
		out = append(out, orderRule{f[0], f[1], f[2], f[3], f[4]})
	}
	return out
}

// codeCheckAgain checks code in the second way.
func codeCheckAgain(c api.Code) api.Errno {
	if len(c.Fns) < 1 || max(len(c.Fns), len(c.Kinds)) > api.MaxNodes || len(c.Ops) > api.MaxCode {
		return api.ErrSize
	}
	rules := readOrderRules()
	if !codeRangesAgain(c, rules) {
		return api.ErrRange
	}
	for _, fn := range c.Fns {
		if !codeFormAgain(c, rules, fn) {
			return api.ErrForm
		}
	}
	return api.OK
}

func codeRangesAgain(c api.Code, rules []orderRule) bool {
	most := map[string]int{"few": api.MaxNodes, "fn": len(c.Fns) - 1, "kind": len(c.Kinds) - 1, "room": api.MaxRoom, "sign": 10, "order": len(c.Ops) - 1, "bit": 1, "0": 0}
	is := func(number int, what string) bool { return what == "any" || number >= 0 && number <= most[what] }
	for _, op := range c.Ops {
		if op.Do < 1 || op.Do > len(rules) || !is(op.A, rules[op.Do-1].a) || !is(op.B, rules[op.Do-1].b) {
			return false
		}
	}
	for _, fn := range c.Fns {
		if fn.Params < 0 || fn.Params > fn.Slots || !is(fn.Slots, "few") || !is(fn.From, "order") || fn.Params+len(fn.Takes) > fn.Slots {
			return false
		}
		for _, slot := range fn.Takes {
			if !is(slot, "few") {
				return false
			}
		}
	}
	for _, kind := range c.Kinds {
		if len(kind) < 1 || len(kind) > api.MaxNodes || !is(kind[0], "few") {
			return false
		}
		for _, method := range kind[1:] {
			if method != -1 && !is(method, "fn") {
				return false
			}
		}
	}
	return true
}

// standing is an order, and how many values there are when one comes there.
type standing struct{ at, values int }

func codeFormAgain(c api.Code, rules []orderRule, fn api.Fn) bool {
	all := []standing{{fn.From, 0}}
	seen := map[standing]bool{all[0]: true}
	orders := map[int]bool{fn.From: true}
	for i := 0; i < len(all); i++ {
		next, right := ahead(c, rules, fn, all[i])
		if !right {
			return false
		}
		for _, s := range next {
			if !seen[s] {
				seen[s] = true
				all = append(all, s)
				orders[s.at] = true
			}
		}
		if len(all) > len(orders) {
			return false
		}
	}
	return true
}

// ahead answers where one comes from there, and whether one may be there.
func ahead(c api.Code, rules []orderRule, fn api.Fn, s standing) ([]standing, bool) {
	if s.at >= len(c.Ops) || s.values > api.MaxNodes {
		return nil, false
	}
	op := c.Ops[s.at]
	rule := rules[op.Do-1]
	slots := map[int][]int{api.OpLoad: {op.A}, api.OpStore: {op.A}, api.OpVar: {op.A}}[op.Do]
	if op.Do == api.OpMake {
		slots = c.Fns[op.A].Takes
	}
	for _, slot := range slots {
		if slot >= fn.Slots {
			return nil, false
		}
	}
	takes := map[string]int{"0": 0, "1": 1, "2": 2, "1+A": 1 + op.A}[rule.takes]
	left := s.values - takes
	if rule.puts == "1" {
		left++
	}
	on, off := standing{s.at + 1, left}, standing{op.A, left}
	switch rule.goes {
	case "next":
		return []standing{on}, s.values >= takes
	case "A":
		return []standing{off}, true
	case "both":
		return []standing{on, off}, s.values >= takes
	case "short":
		return []standing{on, {op.A, s.values}}, s.values >= takes
	case "none":
		return nil, s.values >= takes
	case "select":
		return aheadOfCases(c, s)
	}
	return nil, false
}

func aheadOfCases(c api.Code, s standing) ([]standing, bool) {
	var out []standing
	takes, elses := 0, 0
	for at := s.at + 1; at <= s.at+c.Ops[s.at].A; at++ {
		if at >= len(c.Ops) {
			return nil, false
		}
		switch op := c.Ops[at]; {
		case op.Do == api.OpElse:
			elses++
			out = append(out, standing{op.B, s.values})
		case op.Do == api.OpCase && op.A == 1:
			takes += 2
			out = append(out, standing{op.B, s.values})
		case op.Do == api.OpCase:
			takes++
			out = append(out, standing{op.B, s.values + 1})
		default:
			return nil, false
		}
	}
	for i := range out {
		out[i].values -= takes
	}
	return out, takes <= s.values && elses < 2
}

// codeBytesAgain writes code in the second way.
func codeBytesAgain(c api.Code) []byte {
	numbers := []int{len(c.Ops), len(c.Fns), len(c.Kinds)}
	for _, op := range c.Ops {
		numbers = append(numbers, op.Do, op.A, op.B)
	}
	for _, fn := range c.Fns {
		numbers = append(append(numbers, fn.Params, fn.Slots, fn.From, len(fn.Takes)), fn.Takes...)
	}
	for _, kind := range c.Kinds {
		numbers = append(append(numbers, len(kind)), kind...)
	}
	var out []byte
	for _, number := range numbers {
		out = binary.AppendVarint(out, int64(number))
	}
	return out
}

// codeReadAgain reads code in the second way: it gives up by panic.
func codeReadAgain(b []byte) (c api.Code, wrong api.Errno) {
	defer func() {
		if why := recover(); why != nil {
			c, wrong = api.Code{}, why.(api.Errno)
		}
	}()
	next := func() int {
		number, long := binary.Varint(b)
		// What is written again has to be as long.
		if long <= 0 || len(binary.AppendVarint(nil, number)) != long {
			panic(api.ErrSyntax)
		}
		b = b[long:]
		return int(number)
	}
	many := func() int {
		number := next()
		if number < 0 || number > 10000 {
			panic(api.ErrSize)
		}
		return number
	}
	list := func() []int {
		var out []int
		for range many() {
			out = append(out, next())
		}
		return out
	}
	ops := many()
	fns := many()
	kinds := many()
	for range ops {
		do := next()
		a := next()
		c.Ops = append(c.Ops, api.Op{Do: do, A: a, B: next()})
	}
	for range fns {
		fn := api.Fn{}
		for _, to := range []*int{&fn.Params, &fn.Slots, &fn.From} {
			*to = next()
		}
		fn.Takes = list()
		c.Fns = append(c.Fns, fn)
	}
	for range kinds {
		c.Kinds = append(c.Kinds, list())
	}
	if len(b) > 0 {
		panic(api.ErrSyntax)
	}
	if wrong := codeCheckAgain(c); wrong != api.OK {
		panic(wrong)
	}
	return c, api.OK
}

// holdCodeChecked holds what is said of code against the second way, and answers it.
func holdCodeChecked(t *testing.T, c api.Code) api.Errno {
	t.Helper()
	wrong := code.Check(c)
	if want := codeCheckAgain(c); wrong != want {
		t.Fatalf("%d, not %d of %v", wrong, want, c)
	}
	b, fault := code.Bytes(c)
	if fault != wrong || wrong != api.OK && len(b) > 0 || wrong == api.OK && !bytes.Equal(b, codeBytesAgain(c)) {
		t.Fatalf("%d, %v of %v", fault, b, c)
	}
	return wrong
}

// holdCodeRead holds what is read from bytes against the second way, and answers what is wrong.
func holdCodeRead(t *testing.T, b []byte) api.Errno {
	t.Helper()
	c, wrong := code.Read(b)
	other, want := codeReadAgain(b)
	// Empty lists may be nil or not.
	if wrong != want || fmt.Sprint(c) != fmt.Sprint(other) {
		t.Fatalf("%v, %d, not %v, %d of %v", c, wrong, other, want, b)
	}
	if wrong == api.OK && !bytes.Equal(codeBytesAgain(c), b) {
		t.Fatalf("%v of %v", c, b)
	}
	return wrong
}

// smallCode makes code of few orders, by chance, most numbers of which may be.
func smallCode(r *rand.Rand) api.Code {
	c := api.Code{Kinds: [][]int{{1, 0}, {0}}}
	most := 1 + r.Intn(9)
	for range most {
		op := api.Op{Do: 1 + r.Intn(30)}
		switch op.Do {
		case api.OpNum, api.OpLoad, api.OpStore, api.OpVar, api.OpCall, api.OpGo, api.OpSelect, api.OpMake, api.OpNew:
			op.A = r.Intn(2)
		case api.OpJump, api.OpUnless, api.OpShort:
			op.A = r.Intn(most + 1)
		case api.OpCase:
			op.A, op.B = r.Intn(2), r.Intn(most+1)
		case api.OpElse:
			op.B = r.Intn(most + 1)
		}
		c.Ops = append(c.Ops, op)
		// Cases stand behind selects more often.
		if op.Do == api.OpSelect {
			for range op.A {
				c.Ops = append(c.Ops, api.Op{Do: api.OpCase + r.Intn(2), B: r.Intn(most + 1)})
			}
		}
	}
	if r.Intn(3) > 0 {
		c.Ops = append(c.Ops, api.Op{Do: api.OpNum}, api.Op{Do: api.OpRet})
	}
	for range 1 + r.Intn(2) {
		c.Fns = append(c.Fns, api.Fn{Params: r.Intn(2), Slots: 1 + r.Intn(2), From: r.Intn(2)})
	}
	return c
}

// otherNumber answers a number that is perhaps another one.
func otherNumber(r *rand.Rand, number int) int {
	switch r.Intn(8) {
	case 0:
		return []int{-1, 0, 1, 2, api.MaxRoom, api.MaxRoom + 1, 10, 11, api.MaxNodes, api.MaxNodes + 1, math.MaxInt, math.MinInt, -2}[r.Intn(13)]
	case 1, 2, 3:
		return number + 1
	case 4, 5:
		return number - 1
	}
	return r.Intn(30)
}

// spoiltCode answers a copy of code in which something may be wrong.
func spoiltCode(r *rand.Rand, c api.Code) api.Code {
	ops, fns, kinds := slices.Clone(c.Ops), slices.Clone(c.Fns), slices.Clone(c.Kinds)
	at := r.Intn(len(ops))
	switch r.Intn(12) {
	case 0:
		ops = slices.Delete(ops, at, at+1)
	case 1:
		ops = slices.Insert(ops, at, ops[r.Intn(len(ops))])
	case 2:
		other := r.Intn(len(ops))
		ops[at], ops[other] = ops[other], ops[at]
	case 3, 4:
		ops[at].Do = otherNumber(r, ops[at].Do)
	case 5, 6, 7:
		ops[at].A = otherNumber(r, ops[at].A)
	case 8:
		ops[at].B = otherNumber(r, ops[at].B)
	case 9, 10:
		fn := &fns[r.Intn(len(fns))]
		number := []*int{&fn.Params, &fn.Slots, &fn.From}[r.Intn(3)]
		*number = otherNumber(r, *number)
		if len(fn.Takes) > 0 && r.Intn(2) == 0 {
			fn.Takes = slices.Clone(fn.Takes)
			fn.Takes[0] = otherNumber(r, fn.Takes[0])
		}
	case 11:
		if len(kinds) > 0 {
			place := r.Intn(len(kinds))
			kinds[place] = slices.Clone(kinds[place])
			kinds[place][r.Intn(len(kinds[place]))] = otherNumber(r, 0)
		}
	}
	return api.Code{Ops: ops, Fns: fns, Kinds: kinds}
}

// spoiltBytes answers a copy of bytes in which something may be wrong.
func spoiltBytes(r *rand.Rand, b []byte) []byte {
	b = slices.Clone(b)
	at := r.Intn(len(b))
	if r.Intn(2) == 0 {
		// How many there are stands ahead.
		at = r.Intn(min(len(b), 6))
	}
	switch r.Intn(7) {
	case 0:
		return b[:at]
	case 1:
		return slices.Delete(b, at, at+1)
	case 2:
		return slices.Insert(b, at, byte(r.Intn(256)))
	case 3:
		b[at] ^= 128
	case 4:
		return slices.Insert(b, at, binary.AppendVarint(nil, int64(otherNumber(r, 10000)))...)
	case 5:
		return slices.Insert(b, at, slices.Repeat([]byte{byte(128 + r.Intn(2)*127)}, 7+r.Intn(4))...)
	case 6:
		b[at] += byte(1 + r.Intn(255))
	}
	return b
}

// TestCodeChecks holds what is said of made code, of made programs' code, and of what is left of both when it is spoilt, against the second way; and what is read from bytes.
func TestCodeChecks(t *testing.T) {
	r := rand.New(rand.NewSource(29))
	said, read := map[api.Errno]int{}, map[api.Errno]int{}
	for range 60000 {
		c := smallCode(r)
		said[holdCodeChecked(t, c)]++
		said[holdCodeChecked(t, spoiltCode(r, c))]++
	}
	for round := range 300 {
		c, _ := holdCode(t, []string{livelyMade(r), made(r), thingsMade(r)}[round%3])
		holdCodeChecked(t, c)
		b := codeBytesAgain(c)
		holdCodeRead(t, b)
		for range 20 {
			other := spoiltCode(r, c)
			said[holdCodeChecked(t, other)]++
			read[holdCodeRead(t, codeBytesAgain(other))]++
			read[holdCodeRead(t, spoiltBytes(r, b))]++
		}
		c = smallCode(r)
		for range 10 {
			read[holdCodeRead(t, spoiltBytes(r, codeBytesAgain(c)))]++
		}
	}
	for _, wrong := range []api.Errno{api.OK, api.ErrRange, api.ErrForm} {
		if said[wrong] < 5000 {
			t.Error("too few of these are checked:", wrong, said[wrong])
		}
	}
	for _, wrong := range []api.Errno{api.OK, api.ErrSyntax, api.ErrSize, api.ErrRange, api.ErrForm} {
		if read[wrong] < 100 {
			t.Error("too few of these are read:", wrong, read[wrong])
		}
	}
}

// FuzzRead holds what is read from any bytes against the second way.
func FuzzRead(f *testing.F) {
	r := rand.New(rand.NewSource(30))
	for range 20 {
		f.Add(codeBytesAgain(smallCode(r)))
		c, _ := code.Make(livelyMade(r))
		f.Add(codeBytesAgain(c))
	}
	f.Fuzz(func(t *testing.T, b []byte) {
		holdCodeRead(t, b)
	})
}
