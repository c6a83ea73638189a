package tests

import (
	"math"
	"reflect"
	"slices"
	"testing"

	"loop.example/handfast/impl"
)

// Nothing is written into what is given, nor behind the ends of its lists; what lies there is not told. What fails on the way leaves nothing changed either.
func TestWhatIsRunIsNotChanged(t *testing.T) {
	t.Parallel()
	eachRun(t, 150, func(p impl.Prog, at int, args []impl.Val, through []impl.Val) {
		prog, given, back := roomy(p), roomy(args), roomy(through)
		mustRun(t, prog, at, given, back, ranOf(p, at, args, through))
		ran(t, prog, at, given[:len(given)/2], back)
		ran(t, prog, at, append(slices.Clone(given), number(1)), back)
		ran(t, prog, at, given, given)
		ran(t, prog, at-1, given, back)
		if !wholeThing(prog, roomy(p)) || !wholeThing(given, roomy(args)) || !wholeThing(back, roomy(through)) {
			t.Fatalf("run %d changed what it was given, in\n%s", at, textOf(p))
		}
	})
	for _, p := range likelyProgs(100, 5) {
		prog, given := roomy(p), roomy(valsFrom("1 (2,3) 4 (5,6)"))
		for at := range p.Fns {
			ran(t, prog, at, given, nil)
			ran(t, prog, at, given[:1], given[:1])
		}
		if !wholeThing(prog, roomy(p)) || !wholeThing(given, roomy(valsFrom("1 (2,3) 4 (5,6)"))) {
			t.Fatalf("changed:\n%s", textOf(p))
		}
	}
}

// What comes of a run lies in memory of its own: no two lists of one answer share any, nor do two answers.
func TestWhatComesOfARunSharesNothing(t *testing.T) {
	t.Parallel()
	eachRun(t, 200, func(p impl.Prog, at int, args []impl.Val, through []impl.Val) {
		prog, given, back := roomy(p), roomy(args), roomy(through)
		outs := []impl.Out{impl.HeapRun(prog, at, given, back), impl.HeapRun(prog, at, given, back)}
		list := pieces(reflect.ValueOf(outs))
		for _, other := range []any{prog, given, back} {
			if overlapWith(list, pieces(reflect.ValueOf(other))) {
				t.Fatalf("what comes of run %d shares memory with what was given, in\n%s", at, textOf(p))
			}
		}
		if overlap(list) {
			t.Fatalf("what comes of run %d shares memory with itself, in\n%s", at, textOf(p))
		}
	})
}

// Values that stand in one memory, as arguments, parts of one, or what is written through, are places of their own each.
func TestArgumentsThatShareMemory(t *testing.T) {
	one := pairVal(number(1), number(2))
	both := pairVal(one, one)
	p := mustRead(t, "fn f\nlent p ((i,i),(i,i))\nlent q ((i,i),(i,i))\nhas m ((i,i),(i,i))\nset p.0.0 9\nset m.1.0 8\nset q.1.1 @m.0.0\ngives (i,i) p.1\n")
	args := []impl.Val{both, both, both}
	out := ran(t, p, 0, args, []impl.Val{one})
	if got := outText(out); got != "says (1,2) leaves ((9,2),(1,2)) ((1,2),(1,1))" {
		t.Error(got)
	}
	if list := pieces(reflect.ValueOf(out)); overlap(list) || overlapWith(list, pieces(reflect.ValueOf(both))) {
		t.Error("memory is shared")
	}
	if valText(both) != "((1,2),(1,2))" {
		t.Error("the value is changed:", valText(both))
	}
	// Also where all is given by one list, and that is what is written through.
	list := []impl.Val{both}
	q := mustRead(t, "fn f\nlent p ((i,i),(i,i))\nset p.0 , 8 9\ngives ((i,i),(i,i)) p\n")
	out = ran(t, q, 0, list, list)
	if got := outText(out); got != "says ((8,9),(1,2)) leaves ((1,2),(1,2))" || overlap(append(pieces(reflect.ValueOf(out)), pieceOfList(list)...)) {
		t.Error(got)
	}
	// What is said, and what is left, of one place are two lists.
	out = ran(t, mustRead(t, "fn f\nlent p (i,i)\nsays ((i,i),(i,i)) , @p @p\n"), 0, []impl.Val{one}, nil)
	if got := outText(out); got != "says ((1,2),(1,2)) leaves (1,2)" || overlap(pieces(reflect.ValueOf(out))) {
		t.Error(got)
	}
}

// pieceOfList is where a list itself lies, without its parts.
func pieceOfList(list []impl.Val) []piece {
	return pieces(reflect.ValueOf(list))[:1]
}

// What is written into an answer, or into what was given, is not seen on the other side, nor by a later call.
func TestNothingIsKeptOfRuns(t *testing.T) {
	text := "fn f\nlent p (i,i)\nset p.0 + @p.0 1\ngives (i,i) p\n"
	p := mustRead(t, text)
	args, through := valsFrom("(1,2)"), valsFrom("(8,9)")
	out := ran(t, p, 0, args, through)
	args[0].Kids[0].Num, through[0].Kids[0].Num = 50, 60
	if got := outText(out); got != "says (2,2) leaves (8,9)" {
		t.Error(got)
	}
	out.Val.Kids[0].Num, out.Lent[0].Kids[1].Num = 70, 80
	_ = append(out.Lent, number(1))
	if valText(args[0]) != "(50,2)" || valText(through[0]) != "(60,9)" || impl.ProgWrite(p) != text {
		t.Error(args, through)
	}
	runText(t, p, 0, runCase{"(1,2) > (8,9)", "says (2,2) leaves (8,9)"})
	runText(t, p, 0, runCase{"(9999,2) > (8,9)", "fails"})
	runText(t, p, 0, runCase{"(1,2)", "bad"})
	runText(t, p, 0, runCase{"(1,2) > (8,9)", "says (2,2) leaves (8,9)"})
}

// Nothing panics, and all calls end, whatever they are given.
func TestNoPanicAtWrongRuns(t *testing.T) {
	long := make([]impl.Val, 1<<16)
	lists := [][]impl.Val{nil, {}, valsFrom("1"), valsFrom("(1,2)"), long, {endlessVal()}, {deepVal(100000)}}
	progs := append(endlessProgs(), impl.Prog{}, impl.Prog{Fns: make([]impl.Fn, 5)}, impl.Prog{Fns: make([]impl.Fn, 0, 5)})
	for n, p := range progs {
		for _, at := range []int{math.MinInt, -1, 0, 1, math.MaxInt} {
			for _, args := range lists {
				if out := ran(t, p, at, args, args); !sameThing(out, impl.Out{Code: 9}) {
					t.Errorf("program %d: %v", n, out)
				}
			}
		}
	}
	p := mustRead(t, "fn f\nlent p (i,i)\nhas n i\ngives i p.0\nfn g\nlent p (i,i)\nsays i + 9999 @p.0\nfn h\nsays i 1\n")
	odd := append(oddVals(), number(1), counted(pairType(numberType, numberType), 1))
	for at := -1; at < 4; at++ {
		for _, a := range odd {
			for _, b := range odd {
				for _, args := range [][]impl.Val{nil, {a}, {a, b}, {a, b, a}} {
					for _, through := range [][]impl.Val{nil, {b}, {a, b}} {
						mayRun(t, p, at, args, through)
					}
				}
			}
		}
	}
}

// mayRun checks that what is given is run just if it is asked for; all of it is so small, or so wrong, that this is soon told.
func mayRun(t *testing.T, p impl.Prog, at int, args []impl.Val, through []impl.Val) {
	t.Helper()
	pair := pairType(numberType, numberType)
	want := 9
	switch {
	case at == 0 && len(args) == 2 && isOf(pair, args[0]) && isOf(numberType, args[1]) && len(through) == 1 && isOf(numberType, through[0]):
		want = 0
	case at == 1 && len(args) == 1 && isOf(pair, args[0]) && len(through) == 0:
		want = 1
	case at == 2 && len(args) == 0 && len(through) == 0:
		want = 0
	}
	if got := ran(t, p, at, args, through); got.Code != want {
		t.Fatalf("run %d is %d, not %d", at, got.Code, want)
	}
}

// As much as there may be: the deepest types, expressions and choices, all parameters, and all statements.
func TestRunsOfAsMuchAsThereMayBe(t *testing.T) {
	deep := mustRead(t, "fn f\nlent abcdef (((i,i),(i,i)),((i,i),(i,i)))\nlend uvwxyz abcdef.1.1.1\nset uvwxyz + + + 1 2 + 3 4 + + 5 6 + 7 8\nset abcdef.0 , , 1 2 , 3 4\ngives (((i,i),(i,i)),((i,i),(i,i))) abcdef\n")
	runText(t, deep, 0, runCase{"(((9,9),(9,9)),((5,6),(7,8))) > (((0,0),(0,0)),((0,0),(0,9999)))", "says (((1,2),(3,4)),((5,6),(7,36))) leaves (((0,0),(0,0)),((0,0),(0,9999)))"})
	// Each of 40 is lent from the one ahead, by lending and calling in turn; what is written through the last is in the first.
	var body []impl.Stmt
	last := "p"
	for n := range 40 {
		name := string([]byte{'a' + byte(n/26), 'a' + byte(n%26)})
		body = append(body, []impl.Stmt{lend(name, place(last)), call(name, "g", to(last))}[n%2])
		last = name
	}
	give := gives("g", params(lent("a", numberType)), nil, numberType, place("a"))
	p := fns(give, gives("f", params(lent("p", numberType), lent("q", numberType), lent("r", numberType), has("n", numberType)), body, numberType, place(last)))
	runText(t, p, 1, runCase{"1 2 3 4 > 5", "says 1 leaves 5 2 3"})
	// 5 functions, each of which calls the one ahead several times, and adds to the one place that is lent on.
	list := []impl.Fn{says("a", params(lent("p", numberType)), stmts(set(place("p"), two(3, read("p"), num(1)))), numberType, read("p"))}
	for _, name := range []string{"b", "c", "d", "e"} {
		fn := says(name, params(lent("p", numberType)), nil, numberType, read("p"))
		for n := range 6 {
			fn.Body = append(fn.Body, call(string([]byte{'x', 'a' + byte(n)}), list[len(list)-1].Name, to("p")))
		}
		list = append(list, fn)
	}
	runText(t, fns(list...), 4, runCase{"0", "says 1296 leaves 1296"})
	runText(t, fns(list...), 4, runCase{"8703", "says 9999 leaves 9999"})
	runText(t, fns(list...), 4, runCase{"8704", "fails"})
}
