package whole

import (
	"maps"
	"math/big"
	"slices"
	"strings"

	"ravel/api"
	"ravel/check"
	"ravel/syntax"
)

// This is a second way to run programs: a thread is a stack of things to do, all of it is done by one goroutine, and numbers are reckoned without a bound and cut afterwards.

type cell struct {
	held  any
	by    int // the node that set it last; of fields 0
	since int // how many stations the call had gone over then
}

// names has the variables that are there, by their nodes.
type names map[int]*cell

type object struct {
	site   int // the node that made it
	maker  int // the strand that made it
	owner  string
	fields map[string]*cell
}

type pipe struct {
	site   int // the node that made it
	room   int
	zero   any
	held   []any
	closed bool
}

type routine struct {
	site  int // the node that made it, or the function whose name was used
	node  int
	names names
	ahead []any
}

// spot is where values are: at a node, or inside of what a node made, in a field or (without a name) in a pipe.
type spot struct {
	node   int
	inside bool
	name   string
}

// job is something to do. Those of loops and calls are just places up to which break and return go.
type job struct {
	what string
	tall int // of a call: how many values there were ahead of it
	do   func()
}

// end is one side of what can be handed over.
type end struct {
	node  int
	pipe  *pipe
	sends bool
	held  any
}

type strand struct {
	jobs   []job
	held   []any
	deep   int
	gone   bool
	halt   string // the kind of mark at which it stands
	node   int
	ends   []end
	other  int
	after  func(node int, held any) // how it goes on behind the mark
	call   *routine
	values []any
	ways   [][]int // of each call the stations that it has gone over
}

type machine struct {
	nodes   []api.Node
	types   []string
	uses    []int
	script  []int
	steps   int
	strands []*strand
	over    bool
	trace   api.Trace
	sizes   []int                                // of each pick how many there were
	goes    func(way []int, station int)         // is told of each station, and those ahead of it in its call; perhaps nil
	reads   func(way []int, name int, of *cell)  // is told of each name that reads a variable, and the stations of its call; perhaps nil
	sees    func(where spot, held any)           // is told of each value that comes somewhere; perhaps nil
	calls   func(within []int, node, called int) // is told of each call that is begun, also by a go: the functions in which the strand is, the KCall, what is called; perhaps nil
	does    func(within []int, node int)         // is told of each node that is an event's, or a KPanic at which the run falls: the functions in which the strand is; perhaps nil
	acts    func(a act)                          // is told of each act; perhaps nil
}

// act is something that a strand does to what others have to do with, too.
type act struct {
	what   string // "read", "write", "go", "send", "take", "shut", "empty": take from a pipe that is closed and empty
	strand int
	node   int     // of a read or a write
	cell   *cell   // likewise
	object *object // likewise, of a field
	pipe   *pipe
	other  int // of a go: the strand that begins
}

func runAgain(text string, script []int) (api.Trace, api.Fault) {
	m, fault := readAgain(text)
	if fault.Code != api.OK {
		return api.Trace{}, fault
	}
	trace, _ := m.run(script)
	return trace, api.Fault{}
}

// readAgain answers a machine that has not begun.
func readAgain(text string) (machine, api.Fault) {
	types, fault := check.Check(text)
	if fault.Code != api.OK {
		return machine{}, fault
	}
	uses, _ := check.Uses(text)
	nodes, _ := syntax.Parse(text)
	return machine{types: types, uses: uses, nodes: nodes}, api.Fault{}
}

// run answers also of each pick how many there were. It runs a copy, so that the machine can be run again.
func (m machine) run(script []int) (api.Trace, []int) {
	m.script = slices.Clone(script)
	main := slices.IndexFunc(m.nodes, func(n api.Node) bool { return n.Kind == api.KFunc && n.Text == "main" })
	m.newStrand(&routine{site: main, node: main}, nil)
	m.advance(m.strands[0])
	for !m.over {
		m.turn()
	}
	return m.trace, m.sizes
}

func (m *machine) see(where spot, held any) {
	if m.sees != nil {
		m.sees(where, held)
	}
}

func (m *machine) call(s *strand, node int, f *routine) {
	if m.calls != nil {
		m.calls(s.within(), node, f.node)
	}
}

func (m *machine) done(s *strand, node int) {
	if m.does != nil {
		m.does(s.within(), node)
	}
}

func (m *machine) act(s *strand, a act) {
	if m.acts != nil {
		a.strand = slices.Index(m.strands, s)
		m.acts(a)
	}
}

// within answers the functions in which a strand is, the outermost first.
func (s *strand) within() []int {
	var out []int
	for _, way := range s.ways {
		out = append(out, way[0])
	}
	return out
}

func (m *machine) finish(status, at int) {
	if !m.over {
		m.over, m.trace.Status, m.trace.At = true, status, at
	}
}

func (m *machine) say(kind int, s *strand, node int, held any) {
	num := 0
	switch x := held.(type) {
	case int64:
		num = int(x)
	case bool:
		if x {
			num = 1
		}
	}
	if node >= 0 {
		m.done(s, node)
	}
	m.trace.Events = append(m.trace.Events, api.Event{Kind: kind, Thread: slices.Index(m.strands, s), Node: node, Num: num})
}

func (m *machine) newStrand(f *routine, values []any) *strand {
	s := &strand{halt: "new"}
	m.strands = append(m.strands, s)
	m.enter(s, f, values)
	return s
}

// advance does a strand's jobs up to its next mark.
func (m *machine) advance(s *strand) {
	s.halt, s.ends, s.other = "", nil, -1
	for !m.over && s.halt == "" {
		if len(s.jobs) == 0 {
			s.halt, s.node = "end", -1
			return
		}
		last := s.jobs[len(s.jobs)-1]
		s.jobs = s.jobs[:len(s.jobs)-1]
		last.do()
	}
}

// plan puts jobs so that the first one is done first.
func (s *strand) plan(jobs ...func()) {
	for _, do := range slices.Backward(jobs) {
		s.jobs = append(s.jobs, job{do: do})
	}
}

func (s *strand) pop() any {
	v := s.held[len(s.held)-1]
	s.held = s.held[:len(s.held)-1]
	return v
}

func (s *strand) push(v any) { s.held = append(s.held, v) }

// back drops jobs up to one of loops or calls, this one too.
func (s *strand) back(what string) job {
	for {
		last := s.jobs[len(s.jobs)-1]
		s.jobs = s.jobs[:len(s.jobs)-1]
		if last.what == what {
			return last
		}
	}
}

// enter puts the body of a function, and behind it the zero value that comes back.
func (m *machine) enter(s *strand, f *routine, values []any) {
	n := m.nodes[f.node]
	inner := names{}
	maps.Copy(inner, f.names)
	sig, body := m.nodes[n.Kids[len(n.Kids)-2]], n.Kids[len(n.Kids)-1]
	params := sig.Kids[:sig.Num]
	if n.Kind == api.KMethod {
		params = append([]int{n.Kids[0]}, params...)
	}
	for i, v := range append(slices.Clone(f.ahead), values...) {
		inner[params[i]] = &cell{v, params[i], 1}
		m.see(spot{node: params[i]}, v)
	}
	var zero any
	if len(sig.Kids) > sig.Num {
		zero = m.zeroOf(sig.Kids[sig.Num])
	}
	s.deep++
	s.ways = append(s.ways, []int{f.node})
	s.jobs = append(s.jobs, job{what: "call", tall: len(s.held), do: func() { m.leave(s); s.push(zero) }})
	s.plan(func() { m.stmt(s, body, inner) })
}

// leave comes to the end of a call.
func (m *machine) leave(s *strand) {
	kids := m.nodes[s.ways[len(s.ways)-1][0]].Kids
	m.comes(s, kids[len(kids)-2])
	s.ways = s.ways[:len(s.ways)-1]
	s.deep--
}

// comes tells that a call comes to a station.
func (m *machine) comes(s *strand, station int) {
	way := &s.ways[len(s.ways)-1]
	if m.goes != nil {
		m.goes(*way, station)
	}
	*way = append(*way, station)
}

func (m *machine) zeroOf(typ int) any {
	switch m.types[typ] {
	case "int":
		return int64(0)
	case "bool":
		return false
	}
	return nil
}

// step counts one, and tells whether it may be.
func (m *machine) step(node int) bool {
	if m.steps == api.MaxSteps {
		m.finish(api.Out, node)
		return false
	}
	m.steps++
	return true
}

func (m *machine) stmt(s *strand, node int, in names) {
	if !m.step(node) {
		return
	}
	n := m.nodes[node]
	kid := func(place int) func() { return func() { m.expr(s, n.Kids[place], in) } }
	if n.Kind != api.KBlock {
		m.comes(s, node)
	}
	switch n.Kind {
	case api.KBlock:
		inner := maps.Clone(in)
		for _, line := range slices.Backward(n.Kids) {
			s.plan(func() { m.stmt(s, line, inner) })
		}
	case api.KDefine:
		s.plan(kid(0), func() {
			in[node] = s.newCell(s.pop(), node)
			m.see(spot{node: node}, in[node].held)
		})
	case api.KAssign:
		m.assign(s, node, in)
	case api.KDo:
		s.plan(kid(0), func() { s.pop() })
	case api.KIf:
		s.plan(kid(0), func() {
			if s.pop() == true {
				m.stmt(s, n.Kids[1], in)
			} else if len(n.Kids) == 3 {
				m.stmt(s, n.Kids[2], in)
			}
		})
	case api.KFor:
		s.jobs = append(s.jobs, job{what: "loop", do: func() {}})
		m.again(s, node, in)
	case api.KBreak:
		s.back("loop")
	case api.KReturn:
		s.push(nil)
		if len(n.Kids) > 0 {
			s.plan(kid(0))
		}
		// The job stands below the value's one.
		at := len(s.jobs) - len(n.Kids)
		s.jobs = slices.Insert(s.jobs, at, job{do: func() {
			v := s.pop()
			kids := m.nodes[s.way()[0]].Kids
			m.see(spot{node: kids[len(kids)-2]}, v)
			s.held = s.held[:s.back("call").tall]
			m.leave(s)
			s.push(v)
		}})
	default:
		m.marked(s, node, in)
	}
}

func (m *machine) again(s *strand, node int, in names) {
	n := m.nodes[node]
	s.plan(func() { m.expr(s, n.Kids[0], in) }, func() {
		if s.pop() == true {
			s.plan(func() { m.stmt(s, n.Kids[1], in) }, func() { m.comes(s, node); m.again(s, node, in) })
		}
	})
}

// newCell answers a variable that is set by a node of the call that goes on.
func (s *strand) newCell(held any, by int) *cell { return &cell{held, by, len(s.way())} }

// way answers the stations of the call that goes on.
func (s *strand) way() []int { return s.ways[len(s.ways)-1] }

func (m *machine) assign(s *strand, node int, in names) {
	n := m.nodes[node]
	left := m.nodes[n.Kids[0]]
	value := func() { m.expr(s, n.Kids[1], in) }
	if left.Kind == api.KName {
		use := m.uses[n.Kids[0]]
		s.plan(value, func() {
			*in[use] = *s.newCell(s.pop(), node)
			m.act(s, act{what: "write", node: node, cell: in[use]})
			m.see(spot{node: use}, in[use].held)
		})
		return
	}
	s.plan(func() { m.expr(s, left.Kids[0], in) }, value, func() {
		v := s.pop()
		x, is := s.pop().(*object)
		if !is {
			m.finish(api.Fell, n.Kids[0])
			return
		}
		x.fields[left.Text].held = v
		m.act(s, act{what: "write", node: node, cell: x.fields[left.Text], object: x})
		m.see(spot{x.site, true, left.Text}, v)
	})
}

// marked puts the jobs of statements that are marks, or fall.
func (m *machine) marked(s *strand, node int, in names) {
	n := m.nodes[node]
	stand := func(halt string) { s.halt, s.node = halt, node }
	first := func() { m.expr(s, n.Kids[0], in) }
	switch n.Kind {
	case api.KSend:
		s.plan(first, func() { m.expr(s, n.Kids[1], in) }, func() {
			v := s.pop()
			c, _ := s.pop().(*pipe)
			stand("meet")
			s.ends, s.after = []end{{node, c, true, v}}, func(int, any) {}
		})
	case api.KGo:
		m.parts(s, n.Kids[0], in, func(f *routine, values []any) {
			stand("go")
			s.call, s.values = f, values
		})
	case api.KClose:
		s.plan(first, func() { stand("close") })
	case api.KPrint:
		s.plan(first, func() { stand("print") })
	case api.KPanic:
		s.plan(first, func() {
			m.done(s, node)
			m.finish(api.Fell, node)
		})
	case api.KSelect:
		m.selects(s, node, in)
	}
}

func (m *machine) selects(s *strand, node int, in names) {
	var ends []end
	other := -1
	var jobs []func()
	for _, kid := range m.nodes[node].Kids {
		n := m.nodes[kid]
		if n.Kind == api.KCaseElse {
			other = kid
			continue
		}
		jobs = append(jobs, func() { m.expr(s, n.Kids[0], in) })
		if n.Kind == api.KCaseSend {
			jobs = append(jobs, func() { m.expr(s, n.Kids[1], in) })
		}
		jobs = append(jobs, func() {
			e := end{node: kid}
			if n.Kind == api.KCaseSend {
				e.sends, e.held = true, s.pop()
			}
			e.pipe, _ = s.pop().(*pipe)
			ends = append(ends, e)
		})
	}
	s.plan(append(jobs, func() {
		s.halt, s.node, s.ends, s.other = "meet", node, ends, other
		s.after = func(picked int, held any) {
			inner := maps.Clone(in)
			inner[picked] = s.newCell(held, picked)
			if m.nodes[picked].Kind == api.KCaseRecv {
				m.see(spot{node: picked}, held)
			}
			kids := m.nodes[picked].Kids
			s.plan(func() { m.stmt(s, kids[len(kids)-1], inner) })
		}
	})...)
}

// parts does what is called and the values of a KCall.
func (m *machine) parts(s *strand, node int, in names, then func(*routine, []any)) {
	kids := m.nodes[node].Kids
	jobs := []func(){func() { m.expr(s, kids[0], in) }, func() {
		if s.held[len(s.held)-1] == nil {
			m.finish(api.Fell, node)
		}
	}}
	for _, kid := range kids[1:] {
		jobs = append(jobs, func() { m.expr(s, kid, in) })
	}
	s.plan(append(jobs, func() {
		from := len(s.held) - len(kids) + 1
		values := slices.Clone(s.held[from:])
		s.held = s.held[:from]
		then(s.pop().(*routine), values)
	})...)
}

func (m *machine) expr(s *strand, node int, in names) {
	if !m.step(node) {
		return
	}
	n := m.nodes[node]
	first := func() { m.expr(s, n.Kids[0], in) }
	// Behind all that is planned now.
	s.plan(func() { m.see(spot{node: node}, s.held[len(s.held)-1]) })
	switch n.Kind {
	case api.KNumber:
		s.push(int64(n.Num))
	case api.KTruth:
		s.push(n.Num != 0)
	case api.KNil:
		s.push(nil)
	case api.KName:
		if use := m.uses[node]; m.nodes[use].Kind == api.KFunc {
			s.push(&routine{site: use, node: use})
		} else {
			if m.reads != nil {
				m.reads(s.way(), node, in[use])
			}
			m.act(s, act{what: "read", node: node, cell: in[use]})
			s.push(in[use].held)
		}
	case api.KLit:
		s.push(&routine{site: node, node: node, names: maps.Clone(in)})
	case api.KNew:
		s.push(m.newObject(s, node))
	case api.KMake:
		s.push(&pipe{site: node, room: n.Num, zero: m.zeroOf(n.Kids[0])})
	case api.KNot:
		s.plan(first, func() { s.push(s.pop() != true) })
	case api.KNeg:
		s.plan(first, func() { s.push(cut(new(big.Int).Neg(big.NewInt(s.pop().(int64))))) })
	case api.KRecv:
		s.plan(first, func() {
			c, _ := s.pop().(*pipe)
			s.halt, s.node, s.ends = "meet", node, []end{{node: node, pipe: c}}
			s.after = func(_ int, held any) { s.push(held) }
		})
	default:
		m.others(s, node, in)
	}
}

func (m *machine) others(s *strand, node int, in names) {
	n := m.nodes[node]
	first := func() { m.expr(s, n.Kids[0], in) }
	switch n.Kind {
	case api.KDot:
		s.plan(first, func() { m.dot(s, node, s.pop()) })
	case api.KAssert:
		s.plan(first, func() {
			x, _ := s.pop().(*object)
			if x == nil || "*"+x.owner != m.types[node] {
				m.finish(api.Fell, node)
			}
			s.push(x)
		})
	case api.KCall:
		m.parts(s, node, in, func(f *routine, values []any) {
			// The first function of a thread is called by nobody.
			if s.deep > api.MaxCalls {
				m.finish(api.Fell, node)
				return
			}
			m.call(s, node, f)
			m.enter(s, f, values)
		})
	case api.KBinary:
		s.plan(first, func() {
			if decided := map[string]any{"&&": false, "||": true}[n.Text]; decided != nil && decided == s.held[len(s.held)-1] {
				return
			}
			s.plan(func() { m.expr(s, n.Kids[1], in) }, func() {
				right := s.pop()
				s.push(m.two(node, s.pop(), right))
			})
		})
	}
}

func (m *machine) newObject(s *strand, site int) *object {
	owner := m.nodes[site].Text
	x := &object{site: site, maker: slices.Index(m.strands, s), owner: owner, fields: map[string]*cell{}}
	for _, n := range m.nodes {
		if n.Kind == api.KStruct && n.Text == owner {
			for _, field := range n.Kids {
				x.fields[m.nodes[field].Text] = &cell{held: m.zeroOf(m.nodes[field].Kids[0])}
			}
		}
	}
	return x
}

func (m *machine) dot(s *strand, node int, ahead any) {
	n := m.nodes[node]
	typ := m.types[n.Kids[0]]
	x, _ := ahead.(*object)
	find := func(of string) int {
		return slices.IndexFunc(m.nodes, func(d api.Node) bool {
			return d.Kind == api.KMethod && d.Text == n.Text && m.nodes[m.nodes[d.Kids[0]].Kids[0]].Text == of
		})
	}
	if of, is := strings.CutPrefix(typ, "*"); is {
		if method := find(of); method >= 0 {
			s.push(&routine{site: node, node: method, ahead: []any{ahead}})
			return
		}
	}
	switch {
	case x == nil:
		m.finish(api.Fell, node)
	case typ[0] == '*':
		m.act(s, act{what: "read", node: node, cell: x.fields[n.Text], object: x})
		s.push(x.fields[n.Text].held)
	default:
		s.push(&routine{site: node, node: find(x.owner), ahead: []any{ahead}})
	}
}

// cut answers the number that is left of one when just 64 bits are.
func cut(x *big.Int) int64 {
	whole := new(big.Int).Lsh(big.NewInt(1), 64)
	x.Mod(x, whole)
	if x.Bit(63) == 1 {
		x.Sub(x, whole)
	}
	return x.Int64()
}

func (m *machine) two(node int, left, right any) any {
	sign := m.nodes[node].Text
	switch sign {
	case "&&", "||":
		return right
	case "==":
		return left == right
	case "!=":
		return !(left == right)
	}
	x, y := big.NewInt(left.(int64)), big.NewInt(right.(int64))
	switch sign {
	case "<", "<=", ">", ">=":
		order := x.Cmp(y)
		return strings.Contains(sign, "=") && order == 0 || order < 0 && sign[0] == '<' || order > 0 && sign[0] == '>'
	case "+":
		x.Add(x, y)
	case "-":
		x.Sub(x, y)
	case "*":
		x.Mul(x, y)
	case "/", "%":
		if y.Sign() == 0 {
			m.finish(api.Fell, node)
			return left
		}
		if sign == "/" {
			x.Quo(x, y)
		} else {
			x.Rem(x, y)
		}
	}
	return cut(x)
}
