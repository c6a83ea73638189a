package tests

import (
	"reflect"
	"slices"
	"strings"
	"testing"

	"loop.example/handfast/impl"
)

// Nothing is written into a program, nor behind the ends of its lists; what lies there is not told.
func TestCheckedProgramsAreNotChanged(t *testing.T) {
	t.Parallel()
	for _, p := range append(fineProgs(t, 100), likelyProgs(200, 10)...) {
		arg := roomy(p)
		code, at := faultOf(p)
		mustCheck(t, arg, code, at)
		if code == 0 {
			eachBehind(p, func(at int, n int) { mustLive(t, arg, at, n, liveOf(p, at, n)...) })
		}
		if !wholeThing(arg, roomy(p)) {
			t.Fatalf("changed:\n%s", textOf(p))
		}
	}
	turn := 0
	for _, text := range fineTexts() {
		p := mustRead(t, text)
		changes(&p, func() {
			if turn++; turn%9 != 0 {
				return
			}
			arg := roomy(p)
			impl.CheckOf(arg)
			impl.CheckLive(arg, 0, 1)
			if !wholeThing(arg, roomy(p)) {
				t.Fatalf("changed: %+v", p)
			}
		})
	}
}

// The names that are live lie in memory of their own.
func TestLiveNamesShareNothing(t *testing.T) {
	for _, p := range fineProgs(t, 60) {
		eachBehind(p, func(at int, n int) {
			first, second := impl.CheckLive(p, at, n), impl.CheckLive(p, at, n)
			list := append(pieces(reflect.ValueOf(first)), pieces(reflect.ValueOf(second))...)
			if overlap(list) || overlapWith(list, pieces(reflect.ValueOf(p))) {
				t.Fatalf("what is told behind %d of %d shares memory in\n%s", n, at, textOf(p))
			}
		})
	}
}

// overlapWith says whether a piece of one list shares a byte with one of the other.
func overlapWith(list []piece, others []piece) bool {
	return slices.ContainsFunc(list, func(a piece) bool {
		return slices.ContainsFunc(others, func(b piece) bool { return a.from < b.to && b.from < a.to })
	})
}

// What is written into an answer is not seen by a later call; one call knows nothing of another.
func TestNothingIsKeptOfChecks(t *testing.T) {
	p := mustRead(t, "fn f\nlent p i\nlend r p\nlet x 1\nsays i 0\n")
	list := impl.CheckLive(p, 0, 2)
	for n := range list {
		list[n] = "zz"
	}
	_ = append(list, "zz")
	mustLive(t, p, 0, 2, "p", "r", "x")
	mustCheck(t, mustRead(t, "fn f\nlent p i\nlend r p\nset p 1\nset r 1\nsays i 0\n"), 4, 0)
	mustCheck(t, p, 0, 0)
	mustLive(t, p, 0, 2, "p", "r", "x")
	q := copyOf(p)
	q.Fns[0].Body[0].Place.Name = "zz"
	mustCheck(t, q, 2, 0)
	mustCheck(t, p, 0, 0)
}

// Lists that stand twice in a program, in one memory, are gone through twice.
func TestCheckedPartsThatShareMemory(t *testing.T) {
	path := []int{1, 0, 1}
	pair := pairType(numberType, numberType)
	whole := pairType(pair, pair)
	row := stmts(set(impl.Place{Name: "p", Path: path[:2]}, impl.Expr{Kind: 2, Place: impl.Place{Name: "p", Path: path[1:]}}))
	fn := says("f", params(lent("p", whole)), append(stmts(choose(num(1), row, row)), row...), numberType, num(0))
	other := fn
	other.Name = "g"
	p := fns(fn, other)
	mustCheck(t, p, 0, 0)
	mustLive(t, p, 1, 2, "p")
	if !slices.Equal(path, []int{1, 0, 1}) {
		t.Error("the path is changed")
	}
}

// Nothing panics, and all calls end, whatever they are given.
func TestNoPanicAtWrongChecks(t *testing.T) {
	for n, p := range endlessProgs() {
		if code, at := impl.CheckOf(p); code != 1 || at != 0 {
			t.Errorf("program %d: %d in %d", n, code, at)
		}
		for _, at := range []int{-1, 0, 1} {
			if list := impl.CheckLive(p, at, 0); len(list) > 0 {
				t.Errorf("program %d: %q", n, list)
			}
		}
	}
	// As much as there may be, each lent from the one ahead, or from two, which is no more work.
	var body []impl.Stmt
	last := "p"
	for n := range 40 {
		name := strings.Repeat("x", n%5+1) + "abcdefghi"[n/5:n/5+1]
		body = append(body, lend(name, place(last)))
		last = name
	}
	p := fns(gives("f", params(lent("p", numberType)), body, numberType, place(last)))
	mustCheck(t, p, 0, 0)
	if got := impl.CheckLive(p, 0, 40); len(got) != 41 {
		t.Error(got)
	}
	p.Fns[0].Body[39] = set(place("p"), num(1))
	p.Fns[0].Gives = place("p")
	mustCheck(t, p, 0, 0)
	mustLive(t, p, 0, 40, "p")
}
