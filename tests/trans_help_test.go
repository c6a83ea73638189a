package tests

import (
	"math/rand"
	"slices"
	"strconv"
	"strings"
	"testing"

	"loop.example/handfast/impl"
)

// How a program is told without places, said once more in another way: what ends is read off the row of all uses, by holding what was live ahead of a use against what is live behind it, and what is left of a choice is known once all of it happened to a copy of that row.

// scribe tells a function: what happened in it so far, how many temporary names were taken, and of each lent name its statement, and the temporary names of that.
type scribe struct {
	*history
	count *int
	lends map[string]impl.Stmt
	temps map[string][]string
}

func (s scribe) take() string {
	*s.count++
	return "T" + strconv.Itoa(*s.count)
}

func (h *history) twin() *history {
	return &history{prog: h.prog, at: h.at, rows: slices.Clone(h.rows), uses: slices.Clone(h.uses)}
}

// lentNames is the names that are live and lent, but for parameters, in order.
func (h *history) lentNames() []string {
	var list []string
	for _, x := range h.rows {
		if x.lent && !x.param && !x.nowhere && !h.ended(x.name) {
			list = append(list, x.name)
		}
	}
	return list
}

func (h *history) typeAt(p impl.Place) impl.Type {
	part, _ := partType(h.rows[h.find(p.Name)].kind, p.Path)
	return part
}

func namesAsTerms(list ...string) []impl.Term {
	var told []impl.Term
	for _, name := range list {
		told = append(told, nameTerm(name))
	}
	return told
}

func placeAsTerm(p impl.Place) impl.Term {
	if len(p.Path) == 0 {
		return nameTerm(p.Name)
	}
	return atTerm(nameTerm(p.Name), p.Path...)
}

func exprAsTerm(e impl.Expr) impl.Term {
	switch e.Kind {
	case 1:
		return numTerm(e.Num)
	case 2:
		return placeAsTerm(e.Place)
	}
	return twoTerm(e.Kind, exprAsTerm(e.Kids[0]), exprAsTerm(e.Kids[1]))
}

func putAt(p impl.Place, name string) impl.Bind {
	if len(p.Path) == 0 {
		return bindTerm(p.Name, nameTerm(name))
	}
	return bindTerm(p.Name, putTerm(nameTerm(p.Name), nameTerm(name), p.Path...))
}

// comes is how one name comes back.
func (s scribe) comes(name string) []impl.Bind {
	how, temps := s.lends[name], s.temps[name]
	switch how.Kind {
	case 2:
		return []impl.Bind{putAt(how.Place, name)}
	case 6:
		both := slices.Compact([]string{how.Place.Name, how.Other.Name})
		way := func(p impl.Place) impl.Body { return saying(namesAsTerms(both...), putAt(p, name)) }
		return []impl.Bind{bindIf(both, nameTerm(temps[0]), way(how.Place), way(how.Other))}
	}
	back, puts := s.backTo(how.Args)
	return append([]impl.Bind{bindCall(back, how.Fn+"_", namesAsTerms(slices.Concat(temps, []string{name})...)...)}, puts...)
}

// backTo takes names for what was lent to a call, and puts them there.
func (s scribe) backTo(args []impl.Arg) ([]string, []impl.Bind) {
	var names []string
	var puts []impl.Bind
	for _, a := range args {
		if a.Lent {
			names = append(names, s.take())
			puts = append(puts, putAt(a.Place, names[len(names)-1]))
		}
	}
	return names, puts
}

// come is how names come back, the last one first.
func (s scribe) come(names []string) []impl.Bind {
	var told []impl.Bind
	for _, name := range slices.Backward(names) {
		told = append(told, s.comes(name)...)
	}
	return told
}

func (s scribe) uses(p impl.Place) []impl.Bind {
	was := s.lentNames()
	s.use(p)
	return s.come(slices.DeleteFunc(was, func(name string) bool { return !s.ended(name) }))
}

// reads is what comes back by an expression, and its type.
func (s scribe) reads(e impl.Expr) ([]impl.Bind, impl.Type) {
	switch e.Kind {
	case 1:
		return nil, numberType
	case 2:
		return s.uses(e.Place), s.typeAt(e.Place)
	}
	a, first := s.reads(e.Kids[0])
	b, second := s.reads(e.Kids[1])
	if e.Kind == 6 {
		return append(a, b...), pairType(first, second)
	}
	return append(a, b...), numberType
}

// keeps is a temporary name for an expression.
func (s scribe) keeps(e impl.Expr) (string, []impl.Bind) {
	name := s.take()
	told, _ := s.reads(e)
	return name, append(told, bindTerm(name, exprAsTerm(e)))
}

func (s scribe) tells(list []impl.Stmt) []impl.Bind {
	var told []impl.Bind
	for _, x := range list {
		told = append(told, s.tell(x)...)
	}
	return told
}

func (s scribe) tell(x impl.Stmt) []impl.Bind {
	switch x.Kind {
	case 1:
		told, kind := s.reads(x.Expr)
		s.give(row{name: x.Name, kind: kind})
		return append(told, bindTerm(x.Name, exprAsTerm(x.Expr)))
	case 2:
		told := s.uses(x.Place)
		s.lent(x, s.typeAt(x.Place), x.Place)
		return append(told, bindTerm(x.Name, placeAsTerm(x.Place)))
	case 3:
		name, told := s.keeps(x.Expr)
		return append(append(told, s.uses(x.Place)...), putAt(x.Place, name))
	case 4:
		return s.tellCall(x)
	case 5:
		return s.tellChoice(x)
	}
	name, told := s.keeps(x.Expr)
	told = append(append(told, s.uses(x.Place)...), s.uses(x.Other)...)
	s.lent(x, s.typeAt(x.Place), x.Place, x.Other)
	s.temps[x.Name] = []string{name}
	return append(told, bindIf([]string{x.Name}, nameTerm(name), saying(terms(placeAsTerm(x.Place))), saying(terms(placeAsTerm(x.Other)))))
}

func (s scribe) lent(x impl.Stmt, kind impl.Type, from ...impl.Place) {
	s.give(row{name: x.Name, kind: kind, lent: true, from: from})
	s.lends[x.Name] = x
}

func (s scribe) tellCall(x impl.Stmt) []impl.Bind {
	var told []impl.Bind
	var temps []string
	var from []impl.Place
	for _, a := range x.Args {
		e := a.Expr
		if a.Lent {
			e = impl.Expr{Kind: 2, Place: a.Place}
			from = append(from, a.Place)
		}
		term := exprAsTerm(e)
		more, _ := s.reads(e)
		told = append(told, more...)
		temps = append(temps, s.take())
		told = append(told, bindTerm(temps[len(temps)-1], term))
	}
	at := slices.IndexFunc(s.prog.Fns, func(fn impl.Fn) bool { return fn.Name == x.Fn })
	if fn := s.prog.Fns[at]; fn.Lent {
		s.lent(x, fn.Type, from...)
		s.temps[x.Name] = temps
		return append(told, bindCall([]string{x.Name}, x.Fn, namesAsTerms(temps...)...))
	}
	s.give(row{name: x.Name, kind: s.prog.Fns[at].Type})
	back, puts := s.backTo(x.Args)
	return append(append(told, bindCall(append([]string{x.Name}, back...), x.Fn, namesAsTerms(temps...)...)), puts...)
}

// tellChoice lets all of it happen to a copy first, which then is what is behind it.
func (s scribe) tellChoice(x impl.Stmt) []impl.Bind {
	behind := s.twin()
	behind.does(stmts(x))
	told, _ := s.reads(x.Expr)
	here := s.twin()
	var left []string
	for _, r := range behind.rows[:len(here.rows)] {
		if !r.nowhere && !behind.ended(r.name) {
			left = append(left, r.name)
		}
	}
	way := func(list []impl.Stmt) impl.Body {
		*s.history = *here.twin()
		told := s.tells(list)
		gone := slices.DeleteFunc(s.lentNames(), func(name string) bool { return slices.Contains(left, name) })
		return saying(namesAsTerms(left...), append(told, s.come(gone)...)...)
	}
	yes := way(x.Then)
	no := way(x.Else)
	*s.history = *behind
	return append(told, bindIf(left, exprAsTerm(x.Expr), yes, no))
}

// toldFn is a function's body: what it says, or, as asked for, what comes back.
func toldFn(p impl.Prog, at int, back bool) impl.Body {
	fn := p.Fns[at]
	s := scribe{history: behindStmts(p, at, 0), count: new(int), lends: map[string]impl.Stmt{}, temps: map[string][]string{}}
	told := s.tells(fn.Body)
	var says []string
	if fn.Lent {
		told = append(told, s.uses(fn.Gives)...)
		if !back {
			return saying(terms(placeAsTerm(fn.Gives)), told...)
		}
		told = append(told, putAt(fn.Gives, "N"))
	} else {
		name, more := s.keeps(fn.Says)
		told, says = append(told, more...), []string{name}
	}
	for _, param := range fn.Params {
		if param.Lent {
			says = append(says, param.Name)
		}
	}
	return saying(namesAsTerms(says...), append(told, s.come(s.lentNames())...)...)
}

func namesOfParams(fn impl.Fn) []string {
	var list []string
	for _, param := range fn.Params {
		list = append(list, param.Name)
	}
	return list
}

// toldProg is what a program that is fine is told as, whether that is ok or not.
func toldProg(p impl.Prog) []impl.Pure {
	var list []impl.Pure
	for at, fn := range p.Fns {
		list = append(list, impl.Pure{Name: fn.Name, Params: namesOfParams(fn), Body: toldFn(p, at, false)})
		if fn.Lent {
			list = append(list, impl.Pure{Name: fn.Name + "_", Params: append(namesOfParams(fn), "N"), Body: toldFn(p, at, true)})
		}
	}
	return list
}

// transOf is what TransOf should answer of anything.
func transOf(p impl.Prog) ([]impl.Pure, bool) {
	if !isFine(p) {
		return nil, false
	}
	list := toldProg(p)
	if !isPures(list) {
		return nil, false
	}
	return list, true
}

// mustTrans holds what a program is told as against the rules that are told in another way.
func mustTrans(t *testing.T, p impl.Prog) ([]impl.Pure, bool) {
	t.Helper()
	got, ok := impl.TransOf(p)
	want, so := transOf(p)
	if ok != so || !sameThing(got, want) {
		t.Fatalf("told: %v\n%sit should be: %v\n%sof\n%s", ok, impl.PureText(got), so, puresText(want), textOf(p))
	}
	return got, ok
}

// mustTold is what a program is told as.
func mustTold(t *testing.T, p impl.Prog) []impl.Pure {
	t.Helper()
	list, ok := impl.TransOf(p)
	if !ok {
		t.Fatalf("not told:\n%s", textOf(p))
	}
	return list
}

// toldWords is what the functions that one is told as should answer, in words, if this comes of its run: what it says, and what comes back, which is nothing, if it gives out no place.
func toldWords(fn impl.Fn, out impl.Out) (string, string) {
	switch {
	case out.Code != 0 && fn.Lent:
		return "fails", "fails"
	case out.Code != 0:
		return "fails", ""
	case fn.Lent:
		return inWords([]impl.Val{out.Val}, 0), inWords(out.Lent, 0)
	}
	return inWords(append([]impl.Val{out.Val}, out.Lent...), 0), ""
}

// mustRunTold runs the functions that one is told as, and holds what comes of that against what comes of its own run.
func mustRunTold(t *testing.T, list []impl.Pure, fn impl.Fn, args []impl.Val, through []impl.Val, out impl.Out) {
	t.Helper()
	says, back := toldWords(fn, out)
	mustSay(t, list, fn.Name, args, says)
	if fn.Lent {
		mustSay(t, list, fn.Name+"_", append(slices.Clone(args), through...), back)
	}
}

// mustRunAsTold does that of all functions of a program, with so many values, among them such that are all the same small number.
func mustRunAsTold(t *testing.T, p impl.Prog, list []impl.Pure, n int) counter {
	t.Helper()
	r := rand.New(rand.NewSource(int64(n)))
	count := counter{}
	for at, fn := range p.Fns {
		for turn := range n {
			args, through := asked(r, fn)
			if turn < 4 {
				args = filledAll(paramTypes(fn), turn)
			}
			mustRunTold(t, list, fn, args, through, count.run(t, p, at, args, through))
		}
	}
	return count
}

// eachTold tells of each function of programs that are fine some runs, and what the program is told as.
func eachTold(t *testing.T, n int, tell func(p impl.Prog, list []impl.Pure, at int, args []impl.Val, through []impl.Val)) {
	t.Helper()
	r := rand.New(rand.NewSource(int64(n)))
	for _, p := range fineProgs(t, n) {
		list := mustTold(t, p)
		for at, fn := range p.Fns {
			for range 4 {
				args, through := asked(r, fn)
				tell(p, list, at, args, through)
			}
		}
	}
}

// stepsOf is how much work a call of a function is at most, once it is told: each call of one that gives out a place is one more, for what comes back.
func stepsOf(p impl.Prog, row []impl.Stmt) int {
	steps := 0
	for _, s := range row {
		steps += 1 + stepsOf(p, s.Then) + stepsOf(p, s.Else)
		for _, fn := range p.Fns {
			if s.Kind == 4 && s.Fn == fn.Name {
				steps += 2 * stepsOf(p, fn.Body)
			}
		}
	}
	return steps
}

// stmtsIn is how many statements there are, those in others counted.
func stmtsIn(row []impl.Stmt) int {
	n := len(row)
	for _, s := range row {
		n += stmtsIn(s.Then) + stmtsIn(s.Else)
	}
	return n
}

// fill puts statements into a function that are fine, up to so many, while it is not too much work.
func (m *maker) fill(most int, steps int) {
	fn := &m.prog.Fns[len(m.prog.Fns)-1]
	for n := 0; n < 6*most && stmtsIn(fn.Body) < most; n++ {
		known, body := m.known, fn.Body
		s := m.stmt(1)
		if m.r.Intn(12) == 0 {
			m.known = known
			s = choose(m.expr(numberType, 2), nil, nil)
		}
		fn.Body = m.behind(body, s, 4)
		if !m.fine() || stepsOf(m.prog, fn.Body) > steps {
			m.known, fn.Body = known, body
		}
	}
}

// behind is a row with one statement more at its end, or at that of a way of the choice that it ends with.
func (m *maker) behind(row []impl.Stmt, s impl.Stmt, deep int) []impl.Stmt {
	last := len(row) - 1
	if last < 0 || row[last].Kind != 5 || deep == 1 || m.r.Intn(8) == 0 {
		return append(slices.Clone(row), s)
	}
	row = slices.Clone(row)
	if m.r.Intn(2) == 0 {
		row[last].Then = m.behind(row[last].Then, s, deep-1)
	} else {
		row[last].Else = m.behind(row[last].Else, s, deep-1)
	}
	return row
}

// fullProg is a program of five functions of up to 40 statements; it may be that it is not fine.
func fullProg(r *rand.Rand) impl.Prog {
	m := &maker{r: r}
	for n := range 5 {
		m.known, m.count = nil, 0
		fn := says("fghkl"[n:n+1], nil, nil, numberType, num(0))
		for range 1 + r.Intn(4) {
			kind := m.kind()
			fn.Params = append(fn.Params, impl.Param{Name: m.know(m.name(), kind), Lent: r.Intn(4) > 0, Type: kind})
		}
		m.prog.Fns = append(m.prog.Fns, fn)
		m.fill(40, 1000*(n+1))
		m.finish(1000)
	}
	return m.prog
}

// fullProgs is so many that are fine.
func fullProgs(n int) []impl.Prog {
	r := rand.New(rand.NewSource(int64(n)))
	var list []impl.Prog
	for len(list) < n {
		if p := fullProg(r); isFine(p) {
			list = append(list, p)
		}
	}
	return list
}

// toldText is what a program of a text is told as, in words.
func toldText(t *testing.T, text string) string {
	t.Helper()
	list, ok := mustTrans(t, mustRead(t, text))
	if !ok {
		t.Fatalf("not told:\n%s", text)
	}
	return impl.PureText(list)
}

// toldCase is the lines of a program, or of a function, and what that is told as.
type toldCase struct {
	lines string
	want  string
}

// toldAll holds functions of these lines, which stand behind others, against what they are told as, to the letter, and runs them.
func toldAll(t *testing.T, ahead toldCase, head toldCase, list []toldCase) {
	t.Helper()
	for _, c := range list {
		text := ahead.lines + head.lines + c.lines
		want := ahead.want + head.want + c.want
		if got := toldText(t, text); got != want {
			t.Errorf("told as\n%sit should be\n%s", strings.TrimPrefix(got, ahead.want), strings.TrimPrefix(want, ahead.want))
			continue
		}
		p := mustRead(t, text)
		mustRunAsTold(t, p, mustTold(t, p), 12)
	}
}
