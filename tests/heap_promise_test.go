package tests

import (
	"math/rand"
	"slices"
	"testing"

	"loop.example/handfast/impl"
)

// counter counts runs of each code, so that a test can tell that it made enough of those that say something.
type counter map[int]int

func (c counter) enough(t *testing.T, fine int, fails int) {
	t.Helper()
	if c[0] < fine || c[1] < fails {
		t.Error("the test made too few runs that are fine, or that fail:", c)
	}
}

// run runs a function with what it asks for.
func (c counter) run(t *testing.T, p impl.Prog, at int, args []impl.Val, through []impl.Val) impl.Out {
	t.Helper()
	out := ran(t, p, at, args, through)
	if out.Code != 0 && out.Code != 1 {
		t.Fatalf("run %d with %v and %v is %d, in\n%s", at, args, through, out.Code, textOf(p))
	}
	c[out.Code]++
	return out
}

// What comes of any run is what the rules say that are told in another way.
func TestAnyRun(t *testing.T) {
	count := counter{}
	eachRun(t, 800, func(p impl.Prog, at int, args []impl.Val, through []impl.Val) {
		want := ranOf(p, at, args, through)
		count[want.Code]++
		mustRun(t, p, at, args, through, want)
	})
	count.enough(t, 3000, 300)
}

// What is not fine is bad, and what is is run, also if one thing of a program was changed.
func TestOneThingChangedIsRun(t *testing.T) {
	r := rand.New(rand.NewSource(11))
	count := map[int]int{}
	for _, p := range fineProgs(t, 6) {
		p = copyOf(p)
		changes(&p, func() {
			if r.Intn(3) > 0 || len(p.Fns) == 0 {
				return
			}
			code, _ := impl.CheckOf(p)
			at := r.Intn(len(p.Fns))
			if code != 0 {
				count[9]++
				mustBad(t, "not fine", p, at, nil, nil)
				if code > 1 {
					args, through := asked(r, p.Fns[at])
					mustBad(t, "not fine", p, at, args, through)
				}
				return
			}
			args, through := asked(r, p.Fns[at])
			want := ranOf(p, at, args, through)
			count[want.Code]++
			mustRun(t, p, at, args, through, want)
		})
	}
	if count[0] < 100 || count[1] < 10 || count[9] < 1000 {
		t.Error("the test made too few runs of some code:", count)
	}
}

// P36: the last two functions may be turned about, if the last does not call the other.
func TestP36TurnedAbout(t *testing.T) {
	count := counter{}
	eachRun(t, 500, func(p impl.Prog, at int, args []impl.Val, through []impl.Val) {
		last := len(p.Fns) - 1
		if last < 1 || callsFn(p.Fns[last].Body, p.Fns[last-1].Name) {
			return
		}
		list := slices.Clone(p.Fns)
		list[last-1], list[last] = list[last], list[last-1]
		where := at
		if at >= last-1 {
			where = 2*last - 1 - at
		}
		mustRun(t, fns(list...), where, args, through, count.run(t, p, at, args, through))
	})
	count.enough(t, 500, 50)
}

// callsFn says whether a function is called in these statements, or in those that are in them.
func callsFn(row []impl.Stmt, name string) bool {
	return slices.ContainsFunc(row, func(s impl.Stmt) bool {
		return s.Kind == 4 && s.Fn == name || callsFn(s.Then, name) || callsFn(s.Else, name)
	})
}

// P37: what a run says is of the function's type, and what is left of the parameters'.
func TestP37TypesOfWhatComesOfARun(t *testing.T) {
	count := counter{}
	eachRun(t, 500, func(p impl.Prog, at int, args []impl.Val, through []impl.Val) {
		out := count.run(t, p, at, args, through)
		if out.Code == 0 && (!impl.ValOk(p.Fns[at].Type, out.Val) || !slices.EqualFunc(lentTypes(p.Fns[at]), out.Lent, impl.ValOk)) {
			t.Fatalf("run %d %s, which is not of its types, in\n%s", at, outText(out), textOf(p))
		}
	})
	count.enough(t, 1000, 100)
}

// P38: what is not fine, or not asked for, is not run: with one argument more, or less, or one of another type, it is HeapBad.
func TestP38NotAskedFor(t *testing.T) {
	t.Parallel()
	pair := pairType(numberType, numberType)
	eachRun(t, 300, func(p impl.Prog, at int, args []impl.Val, through []impl.Val) {
		for _, more := range []impl.Val{number(0), number(1), counted(pair, 1)} {
			mustBad(t, "one more", p, at, append(slices.Clone(args), more), through)
			mustBad(t, "one more ahead", p, at, append([]impl.Val{more}, args...), through)
			mustBad(t, "more through", p, at, args, append(slices.Clone(through), more))
		}
		for n, v := range args {
			mustBad(t, "one less", p, at, slices.Delete(slices.Clone(args), n, n+1), through)
			for _, other := range []impl.Val{pairVal(v, v), pairVal(v, number(0)), {Num: v.Num - 10000, Kids: v.Kids}, {Num: v.Num + 10000, Kids: v.Kids}} {
				list := slices.Clone(args)
				list[n] = other
				mustBad(t, "another type", p, at, list, through)
			}
		}
		if p.Fns[at].Lent {
			mustBad(t, "nothing through", p, at, args, nil)
			mustBad(t, "another type through", p, at, args, []impl.Val{pairVal(through[0], number(0))})
		}
		mustBad(t, "no place", p, -1-at, args, through)
		mustBad(t, "no place", p, at+len(p.Fns), args, through)
	})
	bad := 0
	r := rand.New(rand.NewSource(3))
	for _, p := range likelyProgs(400, 10) {
		if code, _ := impl.CheckOf(p); code == 0 {
			continue
		}
		bad++
		for at, fn := range p.Fns {
			args, through := asked(r, fn)
			mustBad(t, "not fine", p, at, args, through)
		}
	}
	if bad < 50 {
		t.Error("the test made too few programs that are not fine:", bad)
	}
}

// P39: a new name for a number at the beginning changes nothing of a run.
func TestP39ANewNameAtTheBeginning(t *testing.T) {
	count := counter{}
	eachRun(t, 400, func(p impl.Prog, at int, args []impl.Val, through []impl.Val) {
		more := changed(p, at, func(fn *impl.Fn) { fn.Body = append(stmts(let("zz", num(3))), fn.Body...) })
		if code, _ := impl.CheckOf(more); code == 1 {
			return // there was no room for it
		}
		mustRun(t, more, at, args, through, count.run(t, p, at, args, through))
	})
	count.enough(t, 1000, 100)
}

// P40: what is done if 1 is done; what is done if 0 is not.
func TestP40WhatIsDoneIf(t *testing.T) {
	t.Parallel()
	count := counter{}
	eachRun(t, 300, func(p impl.Prog, at int, args []impl.Val, _ []impl.Val) {
		body := p.Fns[at].Body
		done, not := cut(p, at, len(body)), cut(p, at, 0)
		for _, c := range []struct {
			s    impl.Stmt
			like impl.Prog
		}{
			{choose(num(1), body, nil), done}, {choose(num(0), body, nil), not}, {choose(num(1), nil, body), not}, {choose(num(0), nil, body), done}, {choose(num(9999), body, nil), done},
		} {
			more := cut(p, at, 0, c.s)
			if code, _ := impl.CheckOf(more); code == 1 {
				continue // there was no room for it
			}
			mustRun(t, more, at, args, nil, count.run(t, c.like, at, args, nil))
		}
	})
	count.enough(t, 1000, 100)
}

// wrapper is a function that only calls another one, and says, or gives out, what that does.
func wrapper(fn impl.Fn) impl.Fn {
	body := stmts(callOf("zz", fn))
	if fn.Lent {
		return gives("zz", fn.Params, body, fn.Type, place("zz"))
	}
	return says("zz", fn.Params, body, fn.Type, read("zz"))
}

// P41: to be called is to be run: a function that only calls another one does the same, and is fine.
func TestP41ToBeCalledIsToBeRun(t *testing.T) {
	count := counter{}
	eachRun(t, 400, func(p impl.Prog, at int, args []impl.Val, through []impl.Val) {
		if at == 4 {
			return
		}
		more := upTo(p, at, wrapper(p.Fns[at]))
		mustCheck(t, more, 0, 0)
		mustRun(t, more, at+1, args, through, count.run(t, p, at, args, through))
	})
	count.enough(t, 1000, 100)
}

// writer is a function that only calls one that gives out a place, writes through that, and says what is there then.
func writer(fn impl.Fn, v impl.Val) impl.Fn {
	return says("zz", fn.Params, stmts(callOf("zz", fn), set(place("zz"), exprOf(v))), fn.Type, read("zz"))
}

// P42: what a caller writes through a place that was given out to it is left as if it was written through from outside, and is there.
func TestP42WhatACallerWrites(t *testing.T) {
	count := counter{}
	eachRun(t, 600, func(p impl.Prog, at int, args []impl.Val, through []impl.Val) {
		if at == 4 || !p.Fns[at].Lent {
			return
		}
		more := upTo(p, at, writer(p.Fns[at], through[0]))
		mustCheck(t, more, 0, 0)
		want := count.run(t, p, at, args, through)
		if want.Code == 0 {
			want.Val = through[0]
		}
		mustRun(t, more, at+1, args, nil, want)
	})
	count.enough(t, 500, 50)
}

// P43: to write back what was there leaves all as if it had been read alone.
func TestP43ToWriteBackWhatWasThere(t *testing.T) {
	count := counter{}
	eachRun(t, 600, func(p impl.Prog, at int, args []impl.Val, through []impl.Val) {
		fn := p.Fns[at]
		if at == 4 || !fn.Lent {
			return
		}
		was := ran(t, p, at, args, through)
		if was.Code != 0 {
			return
		}
		reader := upTo(p, at, says("zz", fn.Params, stmts(callOf("zz", fn)), fn.Type, read("zz")))
		mustRun(t, reader, at+1, args, nil, count.run(t, p, at, args, []impl.Val{was.Val}))
	})
	count.enough(t, 500, 0)
}

// P44: just what was lent is left: of parameters that are not lent nothing is told, and if one is lent in their stead, that is told, too, in its order.
func TestP44JustWhatWasLentIsLeft(t *testing.T) {
	count := counter{}
	eachRun(t, 400, func(p impl.Prog, at int, args []impl.Val, through []impl.Val) {
		out := count.run(t, p, at, args, through)
		fn := p.Fns[at]
		if out.Code == 0 && len(out.Lent) != len(lentTypes(fn)) {
			t.Fatalf("run %d %s, but %d were lent, in\n%s", at, outText(out), len(lentTypes(fn)), textOf(p))
		}
		for n, param := range fn.Params {
			if param.Lent {
				continue
			}
			more := changed(p, at, func(fn *impl.Fn) { fn.Params[n].Lent = true })
			got := count.run(t, more, at, args, through)
			place := len(lentTypes(impl.Fn{Params: fn.Params[:n]}))
			if out.Code == 0 && len(got.Lent) > place {
				got.Lent = slices.Delete(got.Lent, place, place+1)
			}
			if !sameThing(got, out) {
				t.Fatalf("run %d %s, but if %s is lent %s, in\n%s", at, outText(out), param.Name, outText(got), textOf(p))
			}
		}
	})
	count.enough(t, 1000, 100)
}

// P45: who fails says and leaves nothing.
func TestP45WhoFails(t *testing.T) {
	count := counter{}
	eachRun(t, 400, func(p impl.Prog, at int, args []impl.Val, through []impl.Val) {
		if out := count.run(t, p, at, args, through); out.Code == 1 && !sameThing(out, impl.Out{Code: 1}) {
			t.Fatalf("run %d fails, and tells %v, in\n%s", at, out, textOf(p))
		}
		// The same function fails, whatever it did so far, if it does so at its end.
		for _, bad := range []impl.Expr{two(3, num(9999), num(1)), two(4, num(0), num(1))} {
			more := changed(p, at, func(fn *impl.Fn) { fn.Body = append(fn.Body, let("zz", bad)) })
			if code, _ := impl.CheckOf(more); code == 0 {
				count[1]++
				mustRun(t, more, at, args, through, impl.Out{Code: 1})
			}
		}
	})
	count.enough(t, 1000, 1000)
}

// P46: functions behind do not matter to a run.
func TestP46FunctionsBehind(t *testing.T) {
	count := counter{}
	eachRun(t, 500, func(p impl.Prog, at int, args []impl.Val, through []impl.Val) {
		want := count.run(t, p, at, args, through)
		mustRun(t, upTo(p, at), at, args, through, want)
		if len(p.Fns) < 5 {
			mustRun(t, upTo(p, len(p.Fns)-1, says("zz", nil, nil, numberType, two(3, num(9999), num(1)))), at, args, through, want)
		}
	})
	count.enough(t, 1000, 100)
}

// P47: what is set last is left.
func TestP47WhatIsSetLast(t *testing.T) {
	r := rand.New(rand.NewSource(47))
	count := counter{}
	eachRun(t, 300, func(p impl.Prog, at int, args []impl.Val, _ []impl.Val) {
		fn := p.Fns[at]
		want := count.run(t, cut(p, at, len(fn.Body)), at, args, nil)
		place := 0
		for _, param := range fn.Params {
			if !param.Lent {
				continue
			}
			two := anyVals(r, []impl.Type{param.Type, param.Type})
			left := impl.Out{Code: want.Code, Lent: slices.Clone(want.Lent)}
			if want.Code == 0 {
				left.Lent[place] = two[1]
			}
			place++
			once := cut(p, at, len(fn.Body), set(impl.Place{Name: param.Name}, exprOf(two[1])))
			twice := cut(p, at, len(fn.Body), set(impl.Place{Name: param.Name}, exprOf(two[0])), set(impl.Place{Name: param.Name}, exprOf(two[1])))
			for _, more := range []impl.Prog{once, twice} {
				if code, _ := impl.CheckOf(more); code == 0 {
					mustRun(t, more, at, args, nil, left)
				}
			}
		}
	})
	count.enough(t, 500, 50)
}

// P48: one more place that is lent, and not used, is left as it was, and changes nothing.
func TestP48OneMorePlaceThatIsLent(t *testing.T) {
	r := rand.New(rand.NewSource(48))
	types := typesUpTo(4)
	count := counter{}
	eachRun(t, 400, func(p impl.Prog, at int, args []impl.Val, through []impl.Val) {
		if len(p.Fns[at].Params) == 4 {
			return
		}
		want := count.run(t, p, at, args, through)
		kind := types[r.Intn(len(types))]
		more := anyVals(r, []impl.Type{kind})
		last := changed(p, at, func(fn *impl.Fn) { fn.Params = append(fn.Params, lent("zz", kind)) })
		first := changed(p, at, func(fn *impl.Fn) { fn.Params = append(params(lent("zz", kind)), fn.Params...) })
		back, ahead := want, want
		if want.Code == 0 {
			back.Lent, ahead.Lent = append(slices.Clone(want.Lent), more...), append(slices.Clone(more), want.Lent...)
		}
		mustRun(t, last, at, append(slices.Clone(args), more...), through, back)
		mustRun(t, first, at, append(slices.Clone(more), args...), through, ahead)
	})
	count.enough(t, 500, 50)
}

// P49: a number that is lent, and one is added, is one more; or it fails.
func TestP49OneIsAdded(t *testing.T) {
	p := mustRead(t, "fn inc\nlent p i\nset p + @p 1\nsays i @p\nfn by\nlent p (i,i)\nlend r p.1\ncall x inc to r\nsays i @x\nfn out\nlent p (i,i)\nset p.1 + @p.1 1\ngives i p.1\nfn own\nhas n i\nlet p , 7 @n\ncall x out to p\nsays (i,i) @p\n")
	for n := range 10000 {
		one := impl.Out{Code: 1}
		by, out, own := one, one, one
		if n < 9999 {
			more := number(n + 1)
			one = impl.Out{Val: more, Lent: []impl.Val{more}}
			by = impl.Out{Val: more, Lent: []impl.Val{pairVal(number(7), more)}}
			out = impl.Out{Val: more, Lent: []impl.Val{pairVal(number(7), number(5))}}
			own = impl.Out{Val: pairVal(number(7), more)}
		}
		mustRun(t, p, 0, []impl.Val{number(n)}, nil, one)
		if n < 100 || n > 9900 {
			mustRun(t, p, 1, []impl.Val{pairVal(number(7), number(n))}, nil, by)
			mustRun(t, p, 2, []impl.Val{pairVal(number(7), number(n))}, []impl.Val{number(5)}, out)
			mustRun(t, p, 3, []impl.Val{number(n)}, nil, own)
		}
	}
}
