package tests

import (
	"math/rand"
	"slices"
	"testing"

	"loop.example/handfast/impl"
)

// saidTypes is the types of what a function says, once it is told: of what it says or gives out, and of what was lent, if it gives out no place.
func saidTypes(fn impl.Fn) []impl.Type {
	if fn.Lent {
		return []impl.Type{fn.Type}
	}
	return append([]impl.Type{fn.Type}, lentTypes(fn)...)
}

// backTypes is the types of what its function for what comes back is given.
func backTypes(fn impl.Fn) []impl.Type {
	return append(paramTypes(fn), fn.Type)
}

// someProgs is programs that are fine, some of which have functions of up to 40 statements.
func someProgs(t *testing.T, n int) []impl.Prog {
	t.Helper()
	return append(fineProgs(t, n), fullProgs(1+n/50)...)
}

// P70: what a program is told as is of the types of what it says, and of what was lent, and of no others: not if it is given other types.
func TestP70TypesOfWhatIsTold(t *testing.T) {
	t.Parallel()
	for _, p := range someProgs(t, 500) {
		list := mustTold(t, p)
		for _, fn := range p.Fns {
			got, ok := impl.KindOf(list, fn.Name, paramTypes(fn))
			if !ok || !slices.EqualFunc(got, saidTypes(fn), sameType) {
				t.Fatalf("%s is of %v %v, not of %v, in\n%s", fn.Name, ok, textsOf(got), textsOf(saidTypes(fn)), textOf(p))
			}
			mustKind(t, list, fn.Name, append(paramTypes(fn), numberType), "none")
		}
	}
}

// P71: there is a function for what comes back just of functions that give out a place, and it is of the types of what was lent.
func TestP71TypesOfWhatComesBack(t *testing.T) {
	t.Parallel()
	count := map[bool]int{}
	for _, p := range someProgs(t, 500) {
		list := mustTold(t, p)
		for _, fn := range p.Fns {
			count[fn.Lent]++
			got, ok := impl.KindOf(list, fn.Name+"_", backTypes(fn))
			if ok != fn.Lent || ok && !slices.EqualFunc(got, lentTypes(fn), sameType) {
				t.Fatalf("%s_ is of %v %v, not of %v, in\n%s", fn.Name, ok, textsOf(got), textsOf(lentTypes(fn)), textOf(p))
			}
			mustKind(t, list, fn.Name+"_", paramTypes(fn), "none")
			mustKind(t, list, fn.Name+"__", backTypes(fn), "none")
		}
	}
	if count[true] < 200 || count[false] < 200 {
		t.Error("the test made too few functions of one sort:", count)
	}
}

// P72: a program says, and leaves, just what it is told as.
func TestP72TheSameIsSaidAndLeft(t *testing.T) {
	t.Parallel()
	count := counter{}
	eachTold(t, 1500, func(p impl.Prog, list []impl.Pure, at int, args []impl.Val, through []impl.Val) {
		out := count.run(t, p, at, args, through)
		mustRunTold(t, list, p.Fns[at], args, through, out)
	})
	count.enough(t, 5000, 500)
}

// P72, P73 and P74, of programs of five functions of up to 40 statements.
func TestP72ProgramsOfFiveFunctions(t *testing.T) {
	t.Parallel()
	count := counter{}
	large := 0
	for _, p := range fullProgs(40) {
		for _, fn := range p.Fns {
			large += stmtsIn(fn.Body) / 40
		}
		c := mustRunAsTold(t, p, mustTold(t, p), 12)
		count[0] += c[0]
		count[1] += c[1]
	}
	count.enough(t, 500, 500)
	if large < 50 {
		t.Error("the test made too few functions of 40 statements:", large)
	}
}

// P72, of what is right by hand: what was lent is left changed.
func TestP72ByHand(t *testing.T) {
	p := mustRead(t, "fn inc\nlent a i\nhas n i\nset a + @a @n\nsays i @a\nfn one\nlent a i\nhas n i\nlent b i\npick r a b @n\nset r + @r 1\ngives i r\nfn all\nlent p (i,i)\nhas n i\nlent q i\ncall x inc to p.0 of @n\ncall r one to p.1 of - @n 1 to q\ncall y inc to r of @x\nif < @n 3\nset r + @r 1\nelse\nset q + @q 100\nend\nsays (i,i) , @p.1 @y\n")
	list := mustTold(t, p)
	for _, c := range []struct {
		name  string
		given string
		want  string
	}{
		{"inc", "4 5", "says 9 9"}, {"inc", "9999 0", "says 9999 9999"}, {"inc", "9999 1", "fails"}, {"inc", "(1,2) 1", "fails"}, {"inc", "4", "bad"},
		{"one", "4 1 6", "says 5"}, {"one", "4 0 6", "says 7"}, {"one", "9999 0 6", "says 7"}, {"one", "9999 7 6", "fails"},
		{"one_", "4 1 6 50", "says 50 6"}, {"one_", "4 0 6 50", "says 4 50"}, {"one_", "9999 7 6 50", "fails"}, {"one_", "4 1 6", "bad"},
		{"all", "(10,20) 1 30", "says (20,42) (11,20) 43"}, {"all", "(10,20) 2 30", "says (34,33) (12,34) 30"}, {"all", "(10,20) 5 30", "says (36,36) (15,36) 130"},
		{"all", "(10,20) 0 30", "fails"}, {"all", "(9999,20) 1 30", "fails"}, {"all", "(10,20) 5 9900", "fails"}, {"all", "(10,20) 1 9999", "fails"},
	} {
		mustSay(t, list, c.name, valsFrom(c.given), c.want)
	}
}

// P73: what comes back through a place that was given out is what the told function for that says, whatever is written through.
func TestP73WhatComesBack(t *testing.T) {
	t.Parallel()
	r := rand.New(rand.NewSource(73))
	count := counter{}
	eachTold(t, 600, func(p impl.Prog, list []impl.Pure, at int, args []impl.Val, through []impl.Val) {
		fn := p.Fns[at]
		if !fn.Lent {
			return
		}
		kind := []impl.Type{fn.Type}
		for _, back := range [][]impl.Val{through, noughts(kind), filledAll(kind, 9999), countedAll(kind), anyVals(r, kind)} {
			_, want := toldWords(fn, count.run(t, p, at, args, back))
			mustSay(t, list, fn.Name+"_", append(slices.Clone(args), back...), want)
		}
	})
	count.enough(t, 2000, 200)
}

// P74: the told functions fail just when the program does, and are never HeapBad.
func TestP74WhoFails(t *testing.T) {
	t.Parallel()
	count := counter{}
	eachTold(t, 600, func(p impl.Prog, list []impl.Pure, at int, args []impl.Val, through []impl.Val) {
		fn := p.Fns[at]
		for _, given := range [][]impl.Val{args, filledAll(paramTypes(fn), 9999), filledAll(paramTypes(fn), 5000), noughts(paramTypes(fn))} {
			out := count.run(t, p, at, given, through)
			if _, code := impl.PureRun(list, fn.Name, given); code != out.Code {
				t.Fatalf("%s with %v is %d, told it is %d, in\n%s", fn.Name, given, out.Code, code, textOf(p))
			}
			if !fn.Lent {
				continue
			}
			if _, code := impl.PureRun(list, fn.Name+"_", append(slices.Clone(given), through...)); code != out.Code {
				t.Fatalf("%s with %v is %d, told what comes back is %d, in\n%s", fn.Name, given, out.Code, code, textOf(p))
			}
		}
	})
	count.enough(t, 4000, 1000)
}

// P75: only a program that is fine is told, as functions that are ok.
func TestP75WhatIsFineIsTold(t *testing.T) {
	t.Parallel()
	count := map[int]int{}
	for _, seldom := range []int{3, 10, 1000} {
		for _, p := range likelyProgs(600, seldom) {
			code, _ := impl.CheckOf(p)
			count[code]++
			list, ok := impl.TransOf(p)
			if ok != (code == 0) || !ok && len(list) > 0 || !impl.PureOk(list) || !isPures(list) {
				t.Fatalf("it is %d, and told: %v, as\n%sof\n%s", code, ok, puresText(list), textOf(p))
			}
		}
	}
	for _, p := range sampleProgs() {
		code, _ := impl.CheckOf(p)
		if list, ok := impl.TransOf(p); ok != (code == 0) || !ok && len(list) > 0 || !impl.PureOk(list) {
			t.Errorf("it is %d, and told: %v, of\n%s", code, ok, textOf(p))
		}
	}
	for _, code := range []int{0, 2, 3, 4, 5} {
		if count[code] < 20 {
			t.Error("the test made too few programs of code", code, count)
		}
	}
}

// P76: there is a told function for each, and one more for each that gives out a place, in order.
func TestP76ThereIsOneForEach(t *testing.T) {
	t.Parallel()
	for _, p := range someProgs(t, 800) {
		var want, got []string
		for _, fn := range p.Fns {
			want = append(want, fn.Name)
			if fn.Lent {
				want = append(want, fn.Name+"_")
			}
		}
		for _, fn := range mustTold(t, p) {
			got = append(got, fn.Name)
		}
		if !slices.Equal(got, want) {
			t.Fatalf("%q is told, not %q, of\n%s", got, want, textOf(p))
		}
	}
	// As many as there may be.
	p := impl.Prog{}
	for _, name := range []string{"a", "b", "c", "d", "e"} {
		p.Fns = append(p.Fns, gives(name, params(lent("p", numberType)), nil, numberType, place("p")))
	}
	if list := mustTold(t, p); len(list) != 10 || list[9].Name != "e_" {
		t.Error(impl.PureText(list))
	}
}

// P77: functions ahead are told as if there were none behind.
func TestP77FunctionsAhead(t *testing.T) {
	t.Parallel()
	for _, p := range someProgs(t, 800) {
		whole := mustTold(t, p)
		for at := range p.Fns {
			part := mustTold(t, upTo(p, at))
			if len(part) > len(whole) || !sameThing(part, whole[:len(part)]) {
				t.Fatalf("up to %d it is told as\n%snot as\n%s", at, impl.PureText(part), impl.PureText(whole))
			}
		}
		if len(p.Fns) == 5 {
			continue
		}
		more := mustTold(t, upTo(p, len(p.Fns)-1, gives("zz", params(lent("p", numberType)), nil, numberType, place("p"))))
		if len(more) != len(whole)+2 || !sameThing(more[:len(whole)], whole) {
			t.Fatalf("with one more it is told as\n%snot as\n%s", impl.PureText(more), impl.PureText(whole))
		}
	}
}

// P78: a told function is given, and says, as much as chapter 21 says.
func TestP78HowMuchIsGivenAndSaid(t *testing.T) {
	t.Parallel()
	for _, p := range someProgs(t, 800) {
		list := mustTold(t, p)
		for _, fn := range p.Fns {
			names := namesOfParams(fn)
			if !slices.Equal(list[0].Params, names) || len(list[0].Body.Says) != len(saidTypes(fn)) {
				t.Fatalf("%s is told as\n%s", fn.Name, puresText(list[:1]))
			}
			list = list[1:]
			if !fn.Lent {
				continue
			}
			if !slices.Equal(list[0].Params, append(names, "N")) || len(list[0].Body.Says) != len(lentTypes(fn)) {
				t.Fatalf("%s_ is told as\n%s", fn.Name, puresText(list[:1]))
			}
			list = list[1:]
		}
	}
}

// P79: by way of functions that only call another one the same is told, also what comes back.
func TestP79ByWayOfAnotherFunction(t *testing.T) {
	t.Parallel()
	count := counter{}
	eachTold(t, 400, func(p impl.Prog, list []impl.Pure, at int, args []impl.Val, through []impl.Val) {
		more := called(p, at)
		told := mustTold(t, more)
		fn := p.Fns[at]
		says := count.purely(t, list, fn.Name, args)
		for _, way := range more.Fns[at+1:] {
			mustSay(t, told, way.Name, args, says)
		}
		if !fn.Lent {
			return
		}
		given := append(slices.Clone(args), through...)
		back := count.purely(t, list, fn.Name+"_", given)
		for _, way := range more.Fns[at+1:] {
			mustSay(t, told, way.Name+"_", given, back)
		}
	})
	count.enough(t, 2000, 200)
}

// withBody is a program of which one function has other statements.
func withBody(p impl.Prog, at int, body []impl.Stmt) impl.Prog {
	list := slices.Clone(p.Fns)
	list[at].Body = body
	return fns(list...)
}

// P80: a new name for a number at the beginning changes nothing of what told functions say, nor of what those say that call it.
func TestP80ANewNameAtTheBeginning(t *testing.T) {
	t.Parallel()
	count := counter{}
	eachTold(t, 400, func(p impl.Prog, list []impl.Pure, at int, args []impl.Val, through []impl.Val) {
		for n := range at + 1 {
			more := withBody(p, n, append(stmts(let("zz", num(3))), p.Fns[n].Body...))
			if code, _ := impl.CheckOf(more); code == 1 {
				continue // there was no room for it
			}
			told := mustTold(t, more)
			fn := p.Fns[at]
			mustSay(t, told, fn.Name, args, count.purely(t, list, fn.Name, args))
			if fn.Lent {
				given := append(slices.Clone(args), through...)
				mustSay(t, told, fn.Name+"_", given, count.purely(t, list, fn.Name+"_", given))
			}
		}
	})
	count.enough(t, 2000, 200)
}

// P81: what is set last is told as what is left.
func TestP81WhatIsSetLast(t *testing.T) {
	t.Parallel()
	r := rand.New(rand.NewSource(81))
	count := counter{}
	eachTold(t, 300, func(p impl.Prog, _ []impl.Pure, at int, args []impl.Val, _ []impl.Val) {
		fn := p.Fns[at]
		place := 0
		for _, param := range fn.Params {
			if !param.Lent {
				continue
			}
			place++
			two := anyVals(r, []impl.Type{param.Type, param.Type})
			name := impl.Place{Name: param.Name}
			more := cut(p, at, len(fn.Body), set(name, exprOf(two[0])), set(name, exprOf(two[1])))
			if code, _ := impl.CheckOf(more); code != 0 {
				continue // there was no room for it
			}
			vals, code := impl.PureRun(mustTold(t, more), fn.Name, args)
			count[code]++
			if code == 0 && !sameThing(vals[place], two[1]) {
				t.Fatalf("%s is left as %v, not as %v, in\n%s", param.Name, vals[place], two[1], textOf(more))
			}
		}
	})
	count.enough(t, 1000, 50)
}

// P82: one more place that is lent, and not used, comes back as it was, and changes nothing.
func TestP82OneMorePlaceThatIsLent(t *testing.T) {
	t.Parallel()
	r := rand.New(rand.NewSource(82))
	types := typesUpTo(4)
	count := counter{}
	eachTold(t, 300, func(p impl.Prog, list []impl.Pure, at int, args []impl.Val, through []impl.Val) {
		fn := p.Fns[at]
		if len(fn.Params) == 4 {
			return
		}
		kind := types[r.Intn(len(types))]
		one := anyVals(r, []impl.Type{kind})[0]
		for n := range len(fn.Params) + 1 {
			more := changed(p, at, func(fn *impl.Fn) { fn.Params = slices.Insert(fn.Params, n, lent("zz", kind)) })
			told := mustTold(t, more)
			given := slices.Insert(slices.Clone(args), n, one)
			place := len(lentTypes(impl.Fn{Params: fn.Params[:n]}))
			if !fn.Lent {
				mustSay(t, told, fn.Name, given, count.withOne(t, list, fn.Name, args, place+1, one))
				continue
			}
			mustSay(t, told, fn.Name, given, count.purely(t, list, fn.Name, args))
			mustSay(t, told, fn.Name+"_", append(given, through...), count.withOne(t, list, fn.Name+"_", append(slices.Clone(args), through...), place, one))
		}
	})
	count.enough(t, 1000, 100)
}

// withOne is what a function says, with one more value at a place of that.
func (c counter) withOne(t *testing.T, list []impl.Pure, name string, args []impl.Val, at int, one impl.Val) string {
	t.Helper()
	vals, code := impl.PureRun(list, name, args)
	c[code]++
	if code == 0 {
		vals = slices.Insert(vals, at, one)
	}
	return inWords(vals, code)
}
