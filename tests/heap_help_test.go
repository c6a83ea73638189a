package tests

import (
	"math/rand"
	"slices"
	"strconv"
	"strings"
	"testing"

	"loop.example/handfast/impl"
)

// Runs, said once more in another way: all numbers lie in one store, each by the text of where it is, and what a name stands for is such a text, which somebody has a grip on.

// store is the numbers of a run: by the count of an own place, and a step for each part.
type store struct {
	nums  map[string]int
	count int
}

func (s *store) keep(v impl.Val) string {
	s.count++
	where := strconv.Itoa(s.count)
	s.write(where, v)
	return where
}

func (s *store) write(where string, v impl.Val) {
	if len(v.Kids) == 0 {
		s.nums[where] = v.Num
		return
	}
	s.write(where+".0", v.Kids[0])
	s.write(where+".1", v.Kids[1])
}

func (s *store) read(where string) impl.Val {
	if n, ok := s.nums[where]; ok {
		return number(n)
	}
	return pairVal(s.read(where+".0"), s.read(where+".1"))
}

// frame is a function that is being run: which grip each name is.
type frame struct {
	*store
	*diary
	prog  impl.Prog
	names map[string]int
}

// find is where a place lies that is used.
func (f frame) find(p impl.Place) string {
	text := f.grips[f.names[p.Name]].where
	for _, step := range p.Path {
		text += "." + strconv.Itoa(step)
	}
	f.touch(text, f.names[p.Name])
	return text
}

func (f frame) lends(p impl.Place) int {
	where := f.find(p)
	return f.grab(where, f.grips[f.names[p.Name]].line)
}

func (f frame) owns(v impl.Val) int {
	return f.grab(f.keep(v), nil)
}

// says is what an expression says; false, if it fails.
func (f frame) says(e impl.Expr) (impl.Val, bool) {
	switch e.Kind {
	case 1:
		return number(e.Num), true
	case 2:
		return f.read(f.find(e.Place)), true
	}
	a, fine := f.says(e.Kids[0])
	if !fine {
		return impl.Val{}, false
	}
	b, fine := f.says(e.Kids[1])
	switch e.Kind {
	case 3:
		return number(a.Num + b.Num), fine && a.Num+b.Num <= 9999
	case 4:
		return number(a.Num - b.Num), fine && a.Num >= b.Num
	case 5:
		return number(map[bool]int{true: 1}[a.Num < b.Num]), fine
	}
	return pairVal(a, b), fine
}

// does is false, if a statement fails; those behind it are not done.
func (f frame) does(list []impl.Stmt) bool {
	for _, s := range list {
		said, ok := impl.Val{}, true
		if s.Expr.Kind != 0 {
			said, ok = f.says(s.Expr)
		}
		if !ok {
			return false
		}
		switch s.Kind {
		case 1:
			f.names[s.Name] = f.owns(said)
		case 2:
			f.names[s.Name] = f.lends(s.Place)
		case 3:
			f.write(f.find(s.Place), said)
		case 4:
			f.names[s.Name], ok = f.calls(s)
		case 5:
			ok = f.does(map[bool][]impl.Stmt{true: s.Else, false: s.Then}[said.Num == 0])
		case 6:
			f.names[s.Name] = f.lends(map[bool]impl.Place{true: s.Other, false: s.Place}[said.Num == 0])
		}
		if !ok {
			return false
		}
	}
	return true
}

func (f frame) calls(s impl.Stmt) (int, bool) {
	var list []int
	for _, a := range s.Args {
		if a.Lent {
			list = append(list, f.lends(a.Place))
			continue
		}
		said, ok := f.says(a.Expr)
		if !ok {
			return 0, false
		}
		list = append(list, f.owns(said))
	}
	at := slices.IndexFunc(f.prog.Fns, func(fn impl.Fn) bool { return fn.Name == s.Fn })
	return f.runs(f.prog.Fns[at], list)
}

// runs is a grip on what a function says, or gives out; false, if it fails.
func (f frame) runs(fn impl.Fn, list []int) (int, bool) {
	f.names = map[string]int{}
	for n, param := range fn.Params {
		f.names[param.Name] = list[n]
	}
	if !f.does(fn.Body) {
		return 0, false
	}
	if fn.Lent {
		return f.lends(fn.Gives), true
	}
	said, ok := f.says(fn.Says)
	return f.owns(said), ok
}

// ranOf is what HeapRun should answer of a program that is fine, and what its function asks for.
func ranOf(p impl.Prog, at int, args []impl.Val, through []impl.Val) impl.Out {
	out, _ := watchedOf(p, at, args, through)
	return out
}

// watchedOf is that, and whether something was used that had ended; a program that only CheckLoan is wrong with may be run so, too.
func watchedOf(p impl.Prog, at int, args []impl.Val, through []impl.Val) (impl.Out, bool) {
	f := frame{store: &store{nums: map[string]int{}}, diary: &diary{}, prog: p}
	var list []int
	for _, v := range args {
		list = append(list, f.owns(v))
	}
	n, ok := f.runs(p.Fns[at], list)
	if !ok {
		return impl.Out{Code: 1}, f.late
	}
	where := f.grips[n].where
	out := impl.Out{Val: f.read(where)}
	for _, v := range through {
		f.write(where, v)
	}
	for n, param := range p.Fns[at].Params {
		if param.Lent {
			out.Lent = append(out.Lent, f.read(f.grips[list[n]].where))
		}
	}
	return out, f.late
}

// runOf is what HeapRun should answer of anything.
func runOf(p impl.Prog, at int, args []impl.Val, through []impl.Val) impl.Out {
	if !isFine(p) || at < 0 || at >= len(p.Fns) {
		return impl.Out{Code: 9}
	}
	fn := p.Fns[at]
	back := []impl.Type{fn.Type}
	if !fn.Lent {
		back = nil
	}
	if !slices.EqualFunc(paramTypes(fn), args, isOf) || !slices.EqualFunc(back, through, isOf) {
		return impl.Out{Code: 9}
	}
	return ranOf(p, at, args, through)
}

func paramTypes(fn impl.Fn) []impl.Type {
	var list []impl.Type
	for _, param := range fn.Params {
		list = append(list, param.Type)
	}
	return list
}

// lentTypes is the types of the parameters that are lent.
func lentTypes(fn impl.Fn) []impl.Type {
	var list []impl.Type
	for _, param := range fn.Params {
		if param.Lent {
			list = append(list, param.Type)
		}
	}
	return list
}

// isOf says whether a value is of an ok type.
func isOf(t impl.Type, v impl.Val) bool {
	if len(t.Kids) == 0 {
		return len(v.Kids) == 0 && v.Num >= 0 && v.Num <= 9999
	}
	return v.Num == 0 && slices.EqualFunc(t.Kids, v.Kids, isOf)
}

// valFrom is the value of a text; what is no text of a value ends the test.
func valFrom(text string) impl.Val {
	if n, err := strconv.Atoi(text); err == nil {
		return number(n)
	}
	deep := 0
	for n, b := range text {
		switch {
		case b == '(':
			deep++
		case b == ')':
			deep--
		case b == ',' && deep == 1:
			return pairVal(valFrom(text[1:n]), valFrom(text[n+1:len(text)-1]))
		}
	}
	panic("no value: " + text)
}

func valsFrom(text string) []impl.Val {
	var list []impl.Val
	for _, word := range strings.Fields(text) {
		list = append(list, valFrom(word))
	}
	return list
}

func valText(v impl.Val) string {
	if len(v.Kids) == 0 {
		return strconv.Itoa(v.Num)
	}
	var words []string
	for _, kid := range v.Kids {
		words = append(words, valText(kid))
	}
	return "(" + strings.Join(words, ",") + ")"
}

// outText tells in words what comes of a run; it has no words for a code with something beside it.
func outText(o impl.Out) string {
	switch {
	case sameThing(o, impl.Out{Code: 1}):
		return "fails"
	case sameThing(o, impl.Out{Code: 9}):
		return "bad"
	}
	text := "says " + valText(o.Val) + " leaves"
	for _, v := range o.Lent {
		text += " " + valText(v)
	}
	if o.Code != 0 {
		text += " and is " + strconv.Itoa(o.Code)
	}
	return text
}

func mustRun(t *testing.T, p impl.Prog, at int, args []impl.Val, through []impl.Val, want impl.Out) {
	t.Helper()
	if got := ran(t, p, at, args, through); !sameThing(got, want) {
		t.Fatalf("run %d with %v and %v %s, it should be: %s, in\n%s", at, args, through, outText(got), outText(want), textOf(p))
	}
}

// mustBad checks that nothing is run.
func mustBad(t *testing.T, what string, p impl.Prog, at int, args []impl.Val, through []impl.Val) {
	t.Helper()
	if got := ran(t, p, at, args, through); !sameThing(got, impl.Out{Code: 9}) {
		t.Errorf("%s: it %s, it should be bad", what, outText(got))
	}
}

// anyNumber is mostly a small one, as what fails ends a run.
func anyNumber(r *rand.Rand) int {
	if r.Intn(25) == 0 {
		return 9990 + r.Intn(10)
	}
	return r.Intn(12)
}

// anyVals is a value of each type.
func anyVals(r *rand.Rand, types []impl.Type) []impl.Val {
	var list []impl.Val
	for _, kind := range types {
		list = append(list, fill(kind, func() int { return anyNumber(r) }))
	}
	return list
}

// asked is what a function may be run with, by a source of numbers.
func asked(r *rand.Rand, fn impl.Fn) ([]impl.Val, []impl.Val) {
	args := anyVals(r, paramTypes(fn))
	if !fn.Lent {
		return args, nil
	}
	return args, anyVals(r, []impl.Type{fn.Type})
}

// eachRun tells of each function of programs that are fine some runs.
func eachRun(t *testing.T, n int, tell func(p impl.Prog, at int, args []impl.Val, through []impl.Val)) {
	r := rand.New(rand.NewSource(int64(n)))
	for _, p := range fineProgs(t, n) {
		for at, fn := range p.Fns {
			for range 4 {
				args, through := asked(r, fn)
				tell(p, at, args, through)
			}
		}
	}
}

// upTo is a program without the functions behind a place, and with these in their stead.
func upTo(p impl.Prog, at int, more ...impl.Fn) impl.Prog {
	return fns(append(slices.Clone(p.Fns[:at+1]), more...)...)
}

// changed is a program up to a function, which is another one then.
func changed(p impl.Prog, at int, change func(fn *impl.Fn)) impl.Prog {
	fn := p.Fns[at]
	fn.Params, fn.Body = slices.Clone(fn.Params), slices.Clone(fn.Body)
	change(&fn)
	return fns(append(slices.Clone(p.Fns[:at]), fn)...)
}

// callOf calls a function with parameters of the same names.
func callOf(name string, fn impl.Fn) impl.Stmt {
	s := call(name, fn.Name)
	for _, param := range fn.Params {
		if param.Lent {
			s.Args = append(s.Args, to(param.Name))
		} else {
			s.Args = append(s.Args, of(read(param.Name)))
		}
	}
	return s
}

// exprOf is an expression that says a value.
func exprOf(v impl.Val) impl.Expr {
	if len(v.Kids) == 0 {
		return num(v.Num)
	}
	return two(6, exprOf(v.Kids[0]), exprOf(v.Kids[1]))
}
