package tests

import (
	"reflect"
	"slices"
	"testing"

	"loop.example/handfast/impl"
)

// Nothing is written into a program, nor behind the ends of its lists, fine or not; what lies there is not told.
func TestWhatIsToldIsNotChanged(t *testing.T) {
	t.Parallel()
	told := 0
	for _, p := range append(append(someProgs(t, 300), likelyProgs(300, 5)...), sampleProgs()...) {
		prog := roomy(p)
		if list, ok := mustTrans(t, prog); ok && len(list) > 0 {
			told++
		}
		if !wholeThing(prog, roomy(p)) {
			t.Fatalf("changed:\n%s", textOf(p))
		}
	}
	if told < 300 {
		t.Error("the test made too few programs that are told:", told)
	}
}

// What a program is told as lies in memory of its own: no two lists of it share any, nor do two names, nor one and what the program has, nor two answers.
func TestWhatIsToldSharesNothing(t *testing.T) {
	t.Parallel()
	for _, p := range someProgs(t, 300) {
		prog := roomy(p)
		first, second := mustTold(t, prog), mustTold(t, prog)
		list := pieces(reflect.ValueOf([][]impl.Pure{first, second}))
		if overlapWith(list, pieces(reflect.ValueOf(prog))) {
			t.Fatalf("what is told shares memory with the program:\n%s", textOf(p))
		}
		if overlap(list) {
			t.Fatalf("what is told shares memory with itself:\n%s", textOf(p))
		}
		if !sameThing(first, second) {
			t.Fatalf("what is told twice is not told twice the same:\n%s", textOf(p))
		}
	}
}

// Names and paths that are told in several places lie in memory of their own each, also where those of the program lie in one: of a place that is lent, picked, put to, and comes back on both ways of choices, also by calls.
func TestToldNamesAndPathsShareNothing(t *testing.T) {
	path := []int{1, 0, 1}
	pair := pairType(numberType, numberType)
	name := "p"
	part := func(from int, to int) impl.Place { return impl.Place{Name: name, Path: path[from:to]} }
	row := stmts(set(part(0, 2), impl.Expr{Kind: 2, Place: part(1, 3)}))
	args := []impl.Arg{{Lent: true, Place: part(1, 2)}}
	body := stmts(lend("r", part(0, 2)), pick("s", part(0, 2), part(1, 3), num(1)), call("x", "g", args...), choose(num(1), row, row), pick("u", part(1, 3), part(0, 2), num(1)), choose(num(0), row, row), call("z", "g", args...), set(impl.Place{Name: "z"}, num(3)), choose(num(1), nil, stmts(set(part(1, 2), two(6, num(1), num(2))))), row[0])
	g := gives("g", params(lent(name, pair)), nil, numberType, part(0, 1))
	f := gives("f", params(lent(name, pairType(pair, pair))), body, pair, part(0, 1))
	h := f
	h.Name = "h"
	p := fns(g, f, h)
	mustCheck(t, p, 0, 0)
	list, ok := mustTrans(t, p)
	told := pieces(reflect.ValueOf(list))
	if !ok || overlap(told) || overlapWith(told, pieces(reflect.ValueOf(p))) {
		t.Error("memory is shared, or it is not told:", ok)
	}
	if !slices.Equal(path, []int{1, 0, 1}) || name != "p" {
		t.Error("changed:", path, name)
	}
	mustRunAsTold(t, p, list, 8)
}

// What is written into an answer, or into the program, is not seen on the other side, nor by a later call; nor does a program that is not told leave anything behind.
func TestNothingIsKeptOfWhatIsTold(t *testing.T) {
	text := "fn g\nlent p (i,i)\ngives i p.0\nfn f\nlent p (i,i)\ncall r g to p\nset r 5\nsays i @p.1\n"
	want := "g p\n say at.0 p\ng_ p N\n p = put.0 p N\n say p\nf p\n T1 = p\n let r = g T1\n T2 = 5\n r = T2\n let T4 = g_ T1; r\n p = T4\n T3 = at.1 p\n say T3; p\n"
	p := mustRead(t, text)
	bad := mustRead(t, "fn f\nlent p i\nlend r p\nset p 1\nset r 2\nsays i 0\n")
	for range 3 {
		list := mustTold(t, p)
		if _, ok := impl.TransOf(bad); ok {
			t.Error("told what is not fine")
		}
		other := copyOf(p)
		told := mustTold(t, other)
		other.Fns[0].Gives.Path[0] = 1
		other.Fns[0].Params[0].Name = "q"
		other.Fns[1].Body[1].Expr.Num = 6
		other.Fns[1].Says.Place.Path[0] = 0
		if got := impl.PureText(told); got != want {
			t.Errorf("what was told is changed: %q", got)
		}
		list[0].Body.Says[0].Path[0] = 1
		list[1].Params[0] = "q"
		list[2].Body.Binds[4].Terms[0].Name = "q"
		_ = append(list[2].Body.Binds[:1], impl.Bind{})
		if impl.ProgWrite(p) != text {
			t.Errorf("the program is changed: %q", impl.ProgWrite(p))
		}
		if got := toldText(t, text); got != want {
			t.Errorf("%q", got)
		}
	}
}

// Nothing panics, and all calls end, whatever they are given: such are not told.
func TestNoPanicAtWrongProgramsThatAreTold(t *testing.T) {
	for n, p := range append(endlessProgs(), impl.Prog{Fns: make([]impl.Fn, 5)}, impl.Prog{Fns: make([]impl.Fn, 6)}) {
		if list, ok := impl.TransOf(p); ok || len(list) > 0 {
			t.Errorf("program %d is told: %v, %d functions", n, ok, len(list))
		}
	}
	if list, ok := impl.TransOf(impl.Prog{Fns: make([]impl.Fn, 0, 5)}); !ok || len(list) > 0 {
		t.Error("a program of no functions:", ok, list)
	}
	for _, place := range formlessPlaces() {
		for _, s := range stmts(lend("r", place), set(place, num(1)), pick("r", place, impl.Place{Name: "p"}, num(1)), pick("r", impl.Place{Name: "p"}, place, num(1)), let("x", impl.Expr{Kind: 2, Place: place}), call("x", "f", impl.Arg{Lent: true, Place: place})) {
			p := fns(says("f", params(lent("p", numberType)), nil, numberType, num(0)), says("g", params(lent("p", numberType)), stmts(s), numberType, num(0)))
			if list, ok := impl.TransOf(p); ok || len(list) > 0 {
				t.Errorf("told: %.200s", impl.PureText(list))
			}
		}
	}
}

// As much as there may be: 40 names that are each lent from the one ahead, or given out from that, all of which come back in turn; and 40 that are picked, each of which ends the one ahead.
func TestToldOfAsMuchAsThereMayBe(t *testing.T) {
	one := params(lent("p", numberType))
	lends, low := rowOf(40, func(name string, from string) impl.Stmt { return lend(name, place(from)) })
	calls, last := rowOf(40, func(name string, from string) impl.Stmt { return call(name, "a", to(from)) })
	picks, high := rowOf(40, func(name string, from string) impl.Stmt { return pick(name, place("p"), place("q"), read("p")) })
	p := fns(gives("a", one, lends, numberType, place(low)), gives("b", one, calls, numberType, place(last)), gives("c", append(one, lent("q", numberType)), picks, numberType, place(high)))
	mustToldAndRun(t, p)
	// On each way of choices, as deep as may be, all of 36 names come back.
	body, last := rowOf(36, func(name string, from string) impl.Stmt { return lend(name, place(from)) })
	inner := stmts(set(place("p"), num(2)))
	for range 3 {
		inner = stmts(choose(read("p"), inner, nil))
	}
	inner[0].Expr = read(last)
	mustToldAndRun(t, fns(says("f", one, append(body, inner...), numberType, num(0))))
}

func mustToldAndRun(t *testing.T, p impl.Prog) {
	t.Helper()
	mustCheck(t, p, 0, 0)
	list, ok := mustTrans(t, p)
	if !ok {
		t.Fatalf("not told:\n%s", textOf(p))
	}
	mustRunAsTold(t, p, list, 5)
}
