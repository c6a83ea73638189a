package tests

import (
	"math"
	"reflect"
	"slices"
	"testing"

	"loop.example/handfast/impl"
)

// Nothing is written into what is given, nor behind the ends of its lists, whatever comes of the run.
func TestWhatIsWatchedIsNotChanged(t *testing.T) {
	t.Parallel()
	eachRun(t, 100, func(p impl.Prog, at int, args []impl.Val, through []impl.Val) {
		prog, given, back := roomy(p), roomy(args), roomy(through)
		mustWatch(t, prog, at, given, back, ranOf(p, at, args, through))
		impl.LoanRun(prog, at, given[:len(given)/2], back)
		impl.LoanRun(prog, at, append(slices.Clone(given), number(1)), back)
		impl.LoanRun(prog, at, given, given)
		impl.LoanRun(prog, at-1, given, back)
		if !wholeThing(prog, roomy(p)) || !wholeThing(given, roomy(args)) || !wholeThing(back, roomy(through)) {
			t.Fatalf("run %d changed what it was given, in\n%s", at, textOf(p))
		}
	})
	for _, p := range likelyProgs(100, 5) {
		prog, given := roomy(p), roomy(valsFrom("1 (2,3) 4 (5,6)"))
		for at := range p.Fns {
			impl.LoanRun(prog, at, given, nil)
			impl.LoanRun(prog, at, given[:1], given[:1])
		}
		if !wholeThing(prog, roomy(p)) || !wholeThing(given, roomy(valsFrom("1 (2,3) 4 (5,6)"))) {
			t.Fatalf("changed:\n%s", textOf(p))
		}
	}
}

// What comes of a run that is watched lies in memory of its own: no two lists of it share any, nor do two answers, nor one and what HeapRun tells.
func TestWhatComesOfAWatchedRunSharesNothing(t *testing.T) {
	t.Parallel()
	eachRun(t, 150, func(p impl.Prog, at int, args []impl.Val, through []impl.Val) {
		prog, given, back := roomy(p), roomy(args), roomy(through)
		first, _ := impl.LoanRun(prog, at, given, back)
		second, _ := impl.LoanRun(prog, at, given, back)
		list := pieces(reflect.ValueOf([]impl.Out{first, second, impl.HeapRun(prog, at, given, back)}))
		for _, other := range []any{prog, given, back} {
			if overlapWith(list, pieces(reflect.ValueOf(other))) {
				t.Fatalf("what comes of run %d shares memory with what was given, in\n%s", at, textOf(p))
			}
		}
		if overlap(list) {
			t.Fatalf("what comes of run %d shares memory with itself, in\n%s", at, textOf(p))
		}
	})
	// Also where all that is given lies in one memory, and is what is written through.
	one := pairVal(number(1), number(2))
	list := []impl.Val{pairVal(one, one)}
	p := mustRead(t, "fn f\nlent p ((i,i),(i,i))\nlend r p.0\nset r , 8 9\ngives ((i,i),(i,i)) p\n")
	out, late := impl.LoanRun(p, 0, list, list)
	if got := outText(out); late || got != "says ((8,9),(1,2)) leaves ((1,2),(1,2))" || overlap(append(pieces(reflect.ValueOf(out)), pieceOfList(list)...)) || valText(list[0]) != "((1,2),(1,2))" {
		t.Error(got, late, list)
	}
}

// What is written into an answer, or into what was given, is not seen on the other side, nor by a later call; nor does a run that fails, or is bad, leave anything behind.
func TestNothingIsKeptOfWatchedRuns(t *testing.T) {
	text := "fn f\nlent p (i,i)\nlend r p.0\nset r + @r 1\ngives (i,i) p\n"
	p := mustRead(t, text)
	late := mustRead(t, "fn f\nlent p (i,i)\nlend r p.0\nset p.0 1\nset r 2\ngives (i,i) p\n")
	for range 3 {
		args, through := valsFrom("(1,2)"), valsFrom("(8,9)")
		out, _ := impl.LoanRun(p, 0, args, through)
		args[0].Kids[0].Num, through[0].Kids[0].Num = 50, 60
		if got := outText(out); got != "says (2,2) leaves (8,9)" {
			t.Error(got)
		}
		out.Val.Kids[0].Num, out.Lent[0].Kids[1].Num = 70, 80
		_ = append(out.Lent, number(1))
		if valText(args[0]) != "(50,2)" || valText(through[0]) != "(60,9)" || impl.ProgWrite(p) != text {
			t.Error(args, through)
		}
		mustWatch(t, p, 0, valsFrom("(9999,2)"), valsFrom("(8,9)"), impl.Out{Code: 1})
		mustWatch(t, late, 0, valsFrom("(1,2)"), valsFrom("(8,9)"), impl.Out{Code: 9})
		mustWatch(t, p, 0, valsFrom("(1,2)"), nil, impl.Out{Code: 9})
	}
}

// Nothing panics, and all calls end, whatever they are given: such are bad, and false.
func TestNoPanicAtWrongWatchedRuns(t *testing.T) {
	long := make([]impl.Val, 1<<16)
	lists := [][]impl.Val{nil, {}, valsFrom("1"), valsFrom("(1,2)"), long, {endlessVal()}, {deepVal(100000)}}
	progs := append(endlessProgs(), impl.Prog{}, impl.Prog{Fns: make([]impl.Fn, 5)}, impl.Prog{Fns: make([]impl.Fn, 0, 5)})
	for n, p := range progs {
		for _, at := range []int{math.MinInt, -1, 0, 1, math.MaxInt} {
			for _, args := range lists {
				if out, late := impl.LoanRun(p, at, args, args); late || !sameThing(out, impl.Out{Code: 9}) {
					t.Errorf("program %d: %v, %v", n, out, late)
				}
			}
		}
	}
	p := mustRead(t, "fn f\nlent p (i,i)\nhas n i\ngives i p.0\nfn h\nsays i 1\n")
	for _, at := range []int{math.MinInt, -1, 0, 1, 2, math.MaxInt} {
		for _, v := range oddVals() {
			for _, args := range [][]impl.Val{nil, {v}, {v, number(1)}, {number(1), v}, append(valsFrom("(1,2)"), v)} {
				mustWatch(t, p, at, args, []impl.Val{v}, impl.Out{Code: 9})
				mustWatch(t, p, at, args, append(valsFrom("1"), v), impl.Out{Code: 9})
			}
		}
	}
}

// rowOf is names that are each from the one ahead, as this makes them, the first one from p.
func rowOf(n int, next func(name string, from string) impl.Stmt) ([]impl.Stmt, string) {
	var body []impl.Stmt
	last := "p"
	for at := range n {
		name := string([]byte{'a' + byte(at/26), 'a' + byte(at%26)})
		body = append(body, next(name, last))
		last = name
	}
	return body, last
}

// As much as there may be: each of 40 names is given out from the one ahead, by a function that itself lends each of 40 from the one ahead. All that is lent at last comes of one place, and that is used at the end.
func TestWatchedRunsOfAsMuchAsThereMayBe(t *testing.T) {
	one := params(lent("p", numberType))
	lends, low := rowOf(40, func(name string, from string) impl.Stmt { return lend(name, place(from)) })
	calls, high := rowOf(40, func(name string, from string) impl.Stmt { return call(name, "a", to(from)) })
	up := func(name string) impl.Stmt { return set(place(name), two(3, read(name), num(1))) }
	behind := stmts(call("x", "b", to("p")), lend("y", place("x")), up("y"), up("x"), up("p"))
	p := fns(gives("a", one, lends, numberType, place(low)), gives("b", one, calls, numberType, place(high)), says("c", one, behind, numberType, read("p")))
	mustCheck(t, p, 0, 0)
	for at := range 2 {
		mustWatch(t, p, at, valsFrom("5"), valsFrom("7"), impl.Out{Val: number(5), Lent: valsFrom("7")})
	}
	mustWatch(t, p, 2, valsFrom("5"), nil, impl.Out{Val: number(8), Lent: valsFrom("8")})
	mustWatch(t, p, 2, valsFrom("9997"), nil, impl.Out{Code: 1})
}
