package tests

import (
	"math/rand"
	"slices"
	"testing"

	"loop.example/handfast/impl"
)

// What is fine, said once more in another way: all uses of places are noted in one row, and what has ended is told from that.

// row is a name that was given, and how many uses there were then.
type row struct {
	name    string
	kind    impl.Type
	param   bool
	lent    bool
	from    []impl.Place
	behind  int
	nowhere bool // given in a choice that is over, or on its other way
}

// history is what happened in a function so far.
type history struct {
	prog impl.Prog
	at   int
	rows []row
	uses []impl.Place
}

// stop is a fault, as a panic.
type stop int

func fault(code int, unless bool) {
	if !unless {
		panic(stop(code))
	}
}

func (h *history) find(name string) int {
	return slices.IndexFunc(h.rows, func(x row) bool { return x.name == name })
}

// ended says whether a name has ended: a place that it is lent from was used since, or a name of one has ended.
func (h *history) ended(name string) bool {
	x := h.rows[h.find(name)]
	return slices.ContainsFunc(x.from, func(p impl.Place) bool { return h.touched(p, x.behind) })
}

func (h *history) touched(p impl.Place, since int) bool {
	for _, use := range h.uses[since:] {
		if use.Name == p.Name && meet(use.Path, p.Path) {
			return true
		}
	}
	return h.ended(p.Name)
}

func (h *history) out(p impl.Place) bool {
	x := h.rows[h.find(p.Name)]
	for _, from := range x.from {
		if !h.out(from) {
			return false
		}
	}
	return x.lent
}

func (h *history) give(x row) {
	fault(2, h.find(x.name) < 0)
	x.behind = len(h.uses)
	h.rows = append(h.rows, x)
}

func (h *history) use(p impl.Place) impl.Type {
	n := h.find(p.Name)
	fault(2, n >= 0 && !h.rows[n].nowhere)
	fault(4, !h.ended(p.Name))
	part, ok := partType(h.rows[n].kind, p.Path)
	fault(3, ok)
	h.uses = append(h.uses, p)
	return part
}

func (h *history) says(e impl.Expr) impl.Type {
	switch e.Kind {
	case 1:
		return numberType
	case 2:
		return h.use(e.Place)
	}
	both := pairType(h.says(e.Kids[0]), h.says(e.Kids[1]))
	if e.Kind == 6 {
		fault(3, deepOf(both) <= 4)
		return both
	}
	fault(3, deepOf(both) == 2)
	return numberType
}

func (h *history) does(list []impl.Stmt) {
	for _, s := range list {
		switch s.Kind {
		case 1:
			h.give(row{name: s.Name, kind: h.says(s.Expr)})
		case 2:
			h.give(row{name: s.Name, kind: h.use(s.Place), lent: true, from: []impl.Place{s.Place}})
		case 3:
			fault(3, sameType(h.says(s.Expr), h.use(s.Place)))
		case 4:
			h.calls(s)
		case 5:
			h.chooses(s)
		case 6:
			fault(3, sameType(h.says(s.Expr), numberType))
			kind := h.use(s.Place)
			since := len(h.uses)
			fault(3, sameType(h.use(s.Other), kind))
			fault(4, !h.touched(s.Place, since))
			h.give(row{name: s.Name, kind: kind, lent: true, from: []impl.Place{s.Place, s.Other}})
		}
	}
}

func (h *history) calls(s impl.Stmt) {
	n := slices.IndexFunc(h.prog.Fns[:h.at], func(fn impl.Fn) bool { return fn.Name == s.Fn })
	fault(2, n >= 0)
	fn := h.prog.Fns[n]
	fault(3, len(s.Args) == len(fn.Params))
	x := row{name: s.Name, kind: fn.Type, lent: fn.Lent}
	var from []impl.Place
	var since []int
	for n, a := range s.Args {
		fault(3, a.Lent == fn.Params[n].Lent)
		if a.Lent {
			fault(3, sameType(h.use(a.Place), fn.Params[n].Type))
			from, since = append(from, a.Place), append(since, len(h.uses))
		} else {
			fault(3, sameType(h.says(a.Expr), fn.Params[n].Type))
		}
	}
	for n, p := range from {
		fault(4, !h.touched(p, since[n]))
	}
	if fn.Lent {
		x.from = from
	}
	h.give(x)
}

// chooses notes the uses of both ways, one behind the other: what either ended has ended then.
func (h *history) chooses(s impl.Stmt) {
	fault(3, sameType(h.says(s.Expr), numberType))
	rows, uses := len(h.rows), slices.Clone(h.uses)
	h.does(s.Then)
	h.leave(rows)
	both := h.uses
	h.uses = slices.Clone(uses)
	h.does(s.Else)
	h.leave(rows)
	h.uses = append(slices.Clone(both), h.uses[len(uses):]...)
}

func (h *history) leave(rows int) {
	h.rows = slices.Clone(h.rows)
	for n := rows; n < len(h.rows); n++ {
		h.rows[n].nowhere = true
	}
}

// behindStmts is what happened behind so many statements of a function.
func behindStmts(p impl.Prog, at int, n int) *history {
	h := &history{prog: p, at: at}
	for _, param := range p.Fns[at].Params {
		h.give(row{name: param.Name, kind: param.Type, param: true, lent: param.Lent})
	}
	h.does(p.Fns[at].Body[:n])
	return h
}

// faultOf is what CheckOf should answer.
func faultOf(p impl.Prog) (int, int) {
	if !isLines(textOf(p)) {
		return 1, 0
	}
	for n := range p.Fns {
		if code := faultIn(p, n); code != 0 {
			return code, n
		}
	}
	return 0, 0
}

// faultIn is the first fault of one function of a program in form.
func faultIn(p impl.Prog, n int) (code int) {
	defer func() {
		if x := recover(); x != nil {
			code = int(x.(stop))
		}
	}()
	fn := p.Fns[n]
	fault(2, !slices.ContainsFunc(p.Fns[:n], func(x impl.Fn) bool { return x.Name == fn.Name }))
	h := behindStmts(p, n, len(fn.Body))
	if fn.Lent {
		fault(3, sameType(h.use(fn.Gives), fn.Type))
		fault(5, h.out(fn.Gives))
	} else {
		fault(3, sameType(h.says(fn.Says), fn.Type))
	}
	return 0
}

// liveOf is what CheckLive should answer of a program that is fine, and a place and a number that are there.
func liveOf(p impl.Prog, at int, n int) []string {
	h := behindStmts(p, at, n)
	var list []string
	for _, x := range h.rows {
		if !x.nowhere && !h.ended(x.name) {
			list = append(list, x.name)
		}
	}
	return list
}

func isFine(p impl.Prog) bool {
	code, _ := faultOf(p)
	return code == 0
}

// maker makes programs that are likely to be fine, by a source of numbers that is the same each time: names that are given, of types that fit.
type maker struct {
	r     *rand.Rand
	prog  impl.Prog
	known []row // all names that were given in this function
	count int
}

// fine says whether the last function is; what is made is in form, if it is not too long.
func (m *maker) fine() bool {
	return faultIn(m.prog, len(m.prog.Fns)-1) == 0
}

// name is a new one, or, seldom, one that was given already.
func (m *maker) name() string {
	if m.r.Intn(40) == 0 && len(m.known) > 0 {
		return m.known[m.r.Intn(len(m.known))].name
	}
	m.count++
	return string([]byte{'a' + byte(m.count/26), 'a' + byte(m.count%26)})
}

// place is one of a type, mostly; of any, if there is none such.
func (m *maker) place(fits func(impl.Type) bool) impl.Place {
	for range 30 {
		if len(m.known) == 0 {
			break
		}
		x := m.known[m.r.Intn(len(m.known))]
		var path []int
		for n := m.r.Intn(4); n > 0; n-- {
			path = append(path, m.r.Intn(2))
		}
		if part, ok := partType(x.kind, path); ok && (fits(part) || m.r.Intn(200) == 0) {
			return place(x.name, path...)
		}
	}
	return place("zz", m.r.Intn(2))
}

func (m *maker) placeOf(kind impl.Type) impl.Place {
	return m.place(func(t impl.Type) bool { return sameType(t, kind) })
}

func (m *maker) anyPlace() impl.Place {
	return m.place(func(impl.Type) bool { return true })
}

func (m *maker) expr(kind impl.Type, deep int) impl.Expr {
	switch turn := m.r.Intn(10); {
	case turn < 4 || deep == 1:
		if p := m.placeOf(kind); p.Name != "zz" {
			return impl.Expr{Kind: 2, Place: p}
		}
		fallthrough
	case turn < 7 || deep == 1:
		if len(kind.Kids) == 0 {
			return num(m.r.Intn(4))
		}
	}
	if deep == 1 {
		return num(1)
	}
	if len(kind.Kids) == 2 {
		return two(6, m.expr(kind.Kids[0], deep-1), m.expr(kind.Kids[1], deep-1))
	}
	return two(3+m.r.Intn(3), m.expr(kind, deep-1), m.expr(kind, deep-1))
}

func (m *maker) kind() impl.Type {
	list := typesUpTo(3)
	return list[min(m.r.Intn(len(list)), m.r.Intn(len(list)))]
}

// typeOfPlace is the type of a place that was made; a number, if it has none.
func (m *maker) typeOfPlace(p impl.Place) impl.Type {
	for _, x := range m.known {
		if x.name == p.Name {
			part, _ := partType(x.kind, p.Path)
			return part
		}
	}
	return numberType
}

func (m *maker) know(name string, kind impl.Type) string {
	m.known = append(m.known, row{name: name, kind: kind})
	return name
}

func (m *maker) stmt(deep int) impl.Stmt {
	switch m.r.Intn(10) {
	case 0:
		kind := m.kind()
		e := m.expr(kind, 3)
		return let(m.know(m.name(), kind), e)
	case 1, 2:
		p := m.anyPlace()
		return lend(m.know(m.name(), m.typeOfPlace(p)), p)
	case 3:
		p := m.anyPlace()
		return set(p, m.expr(m.typeOfPlace(p), 3))
	case 4, 5, 6, 7:
		return m.call()
	case 8:
		if deep > 1 {
			e := m.expr(numberType, 2)
			return choose(e, m.stmts(deep-1), m.stmts(deep-1))
		}
	}
	p := m.anyPlace()
	kind := m.typeOfPlace(p)
	other := m.placeOf(kind)
	e := m.expr(numberType, 2)
	return pick(m.know(m.name(), kind), p, other, e)
}

func (m *maker) stmts(deep int) []impl.Stmt {
	var list []impl.Stmt
	for n := m.r.Intn(3); n > 0; n-- {
		list = append(list, m.stmt(deep))
	}
	return list
}

func (m *maker) call() impl.Stmt {
	at := len(m.prog.Fns) - 1
	if at == 0 && m.r.Intn(10) > 0 {
		p := m.anyPlace()
		return lend(m.know(m.name(), m.typeOfPlace(p)), p)
	}
	if at == 0 || m.r.Intn(40) == 0 {
		return call(m.know(m.name(), numberType), []string{"f", "g", "h", "zz"}[m.r.Intn(4)], of(num(1)))
	}
	fn := m.prog.Fns[m.r.Intn(at)]
	var args []impl.Arg
	for _, param := range fn.Params {
		if param.Lent != (m.r.Intn(60) == 0) {
			args = append(args, impl.Arg{Lent: true, Place: m.placeOf(param.Type)})
		} else {
			args = append(args, of(m.expr(param.Type, 2)))
		}
	}
	if m.r.Intn(60) == 0 && len(args) > 0 {
		args = args[1:]
	}
	return call(m.know(m.name(), fn.Type), fn.Name, args...)
}

// grow puts statements behind a function; those that are not fine stay but seldom.
func (m *maker) grow(seldom int) {
	fn := &m.prog.Fns[len(m.prog.Fns)-1]
	for n := 4 + m.r.Intn(10); n > 0; n-- {
		known, body := m.known, fn.Body
		fn.Body = append(slices.Clone(body), m.stmt(3))
		if !m.fine() && m.r.Intn(seldom) > 0 {
			m.known, fn.Body = known, body
		}
	}
}

// finish is what a function says, or gives out; as of statements, one that is not fine is taken but seldom.
func (m *maker) finish(seldom int) {
	fn := &m.prog.Fns[len(m.prog.Fns)-1]
	for range 20 {
		*fn = impl.Fn{Name: fn.Name, Params: fn.Params, Body: fn.Body, Lent: m.r.Intn(3) > 0}
		if fn.Lent {
			fn.Gives = m.anyPlace()
			fn.Type = m.typeOfPlace(fn.Gives)
		} else {
			fn.Type = m.kind()
			fn.Says = m.expr(fn.Type, 4)
		}
		if m.fine() || m.r.Intn(seldom) == 0 {
			return
		}
	}
}

// likelyProg is a program of some functions, in which faults are so seldom.
func likelyProg(r *rand.Rand, seldom int) impl.Prog {
	m := &maker{r: r}
	for n := range 1 + r.Intn(4) {
		m.known, m.count = nil, 0
		fn := says("fghk"[n:n+1], nil, nil, numberType, num(0))
		for range 1 + r.Intn(4) {
			kind := m.kind()
			fn.Params = append(fn.Params, impl.Param{Name: m.know(m.name(), kind), Lent: r.Intn(4) > 0, Type: kind})
		}
		m.prog.Fns = append(m.prog.Fns, fn)
		m.grow(seldom)
		m.finish(seldom)
	}
	return m.prog
}

// likelyProgs is so many of them.
func likelyProgs(n int, seldom int) []impl.Prog {
	r := rand.New(rand.NewSource(int64(n + seldom)))
	var list []impl.Prog
	for range n {
		list = append(list, likelyProg(r, seldom))
	}
	return list
}

// fineProgs is programs that are fine: some by hand, others by numbers.
func fineProgs(t *testing.T, n int) []impl.Prog {
	var list []impl.Prog
	for _, text := range fineTexts() {
		list = append(list, mustRead(t, text))
	}
	for _, p := range likelyProgs(n, 1000) {
		if isFine(p) {
			list = append(list, p)
		}
	}
	return list
}

// mustCheck checks what CheckOf answers.
func mustCheck(t *testing.T, p impl.Prog, code int, at int) {
	t.Helper()
	if c, n := impl.CheckOf(p); c != code || n != at {
		t.Errorf("CheckOf is %d in %d, not %d in %d, of\n%s", c, n, code, at, textOf(p))
	}
}
