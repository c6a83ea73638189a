package tests

import (
	"reflect"
	"strings"
	"testing"

	"loop.example/handfast/impl"
)

// Nothing is written into what is given, nor behind the ends of its lists; what lies there is not told.
func TestWhatIsLentIsNotChanged(t *testing.T) {
	t.Parallel()
	for _, p := range fineProgs(t, 12) {
		arg := roomy(p)
		eachPlace(p, func(at int, n int, place impl.Place) {
			use := roomy(place)
			mustEnds(t, arg, at, n, use, endsOf(p, at, n, place)...)
			if !wholeThing(use, roomy(place)) {
				t.Fatalf("the place is changed: %+v", place)
			}
		})
		eachBehind(p, func(at int, n int) { mustLends(t, arg, at, n, lendsText(lendsOf(p, at, n))) })
		if !wholeThing(arg, roomy(p)) {
			t.Fatalf("changed:\n%s", textOf(p))
		}
	}
	for _, p := range likelyProgs(200, 5) {
		arg := roomy(p)
		eachBehind(p, func(at int, n int) {
			impl.LendOf(arg, at, n)
			impl.LendEnds(arg, at, n, place(p.Fns[at].Params[0].Name))
		})
		if !wholeThing(arg, roomy(p)) {
			t.Fatalf("changed:\n%s", textOf(p))
		}
	}
	for _, a := range append(formPlaces(), formlessPlaces()[:60]...) {
		first, second := roomy(a), roomy(place("p", 0, 1))
		if impl.LendMeet(first, second) != placesMeet(a, second) || impl.LendMeet(second, first) != placesMeet(a, second) {
			t.Fatalf("%q %v", a.Name, a.Path)
		}
		if !wholeThing(first, roomy(a)) || !wholeThing(second, roomy(place("p", 0, 1))) {
			t.Fatalf("a place is changed: %q %v", a.Name, a.Path)
		}
	}
}

// What is told lies in memory of its own: no two lists of one answer share any, nor do two answers.
func TestWhatIsLentSharesNothing(t *testing.T) {
	for _, p := range fineProgs(t, 30) {
		arg := roomy(p)
		given := pieces(reflect.ValueOf(arg))
		eachBehind(p, func(at int, n int) {
			told := [][]impl.Lend{impl.LendOf(arg, at, n), impl.LendOf(arg, at, n)}
			var ends [][]string
			var uses []impl.Place
			for _, name := range givenNames(p.Fns[at], n) {
				uses = append(uses, roomy(place(strings.Clone(name))))
				ends = append(ends, impl.LendEnds(arg, at, n, uses[len(uses)-1]))
			}
			list := append(pieces(reflect.ValueOf(told)), pieces(reflect.ValueOf(ends))...)
			if overlap(list) || overlapWith(list, given) || overlapWith(list, pieces(reflect.ValueOf(uses))) {
				t.Fatalf("what is told behind %d of %d shares memory in\n%s", n, at, textOf(p))
			}
		})
	}
}

// Places that stand in one memory in a program, as parts of one path, have paths of their own in an answer.
func TestLentPlacesThatShareMemory(t *testing.T) {
	path := []int{0, 1, 0}
	part := func(from int, to int) impl.Place { return impl.Place{Name: "p", Path: path[from:to]} }
	pair := pairType(numberType, numberType)
	whole := pairType(pairType(pair, pair), pairType(pair, pair))
	give := gives("g", params(lent("a", pair), lent("b", pair)), nil, numberType, place("a", 0))
	body := stmts(lend("r", part(0, 3)), pick("s", place("p", 1, 1), part(1, 3), num(1)), call("u", "g", to("p", 0, 0), impl.Arg{Lent: true, Place: impl.Place{Name: "q", Path: path[1:2]}}), lend("w", impl.Place{Name: "q", Path: path[:0:1]}))
	p := fns(give, says("f", params(lent("p", whole), lent("q", pairType(pair, pair))), body, numberType, num(0)))
	mustCheck(t, p, 0, 0)
	mustLends(t, p, 1, 3, "r: p.0.1.0; s: p.1.1 p.1.0; u: p.0.0 q.1")
	mustLends(t, p, 1, 4, "r: p.0.1.0; s: p.1.1 p.1.0; w: q")
	for n := range 5 {
		list := pieces(reflect.ValueOf(impl.LendOf(p, 1, n)))
		if overlap(list) || overlapWith(list, pieces(reflect.ValueOf(p))) {
			t.Errorf("memory is shared behind %d", n)
		}
	}
	mustEnds(t, p, 1, 3, part(0, 1), "u", "r")
	if !sameThing(path, []int{0, 1, 0}) {
		t.Error("the path is changed")
	}
}

// What is written into an answer is not seen by what was given, nor by a later call.
func TestNothingIsKeptOfWhatIsLent(t *testing.T) {
	text := "fn f\nlent p (i,i)\nlend r p\nlend s r.1\nsays i 0\n"
	p := mustRead(t, text)
	list := impl.LendOf(p, 0, 2)
	list[1].Places[0].Path[0] = 0
	list[1].Places[0].Name = "zz"
	list[0].Places = append(list[0].Places, place("q"))
	list[0].Name = "zz"
	_ = append(list, impl.Lend{})
	ends := impl.LendEnds(p, 0, 2, place("p"))
	ends[0], ends[1] = "zz", "zz"
	_ = append(ends, "zz")
	if impl.ProgWrite(p) != text {
		t.Error(impl.ProgWrite(p))
	}
	mustLends(t, p, 0, 2, "r: p; s: r.1")
	mustEnds(t, p, 0, 2, place("p"), "s", "r")
	// Nor is what is used in one call used in the next.
	mustEnds(t, p, 0, 2, place("r"), "s")
	mustEnds(t, p, 0, 2, place("p"), "s", "r")
	mustLends(t, p, 0, 2, "r: p; s: r.1")
	mustLive(t, p, 0, 2, "p", "r", "s")
	list = impl.LendOf(p, 0, 2)
	p.Fns[0].Body[1].Place.Path[0] = 0
	if lendsText(list) != "r: p; s: r.1" {
		t.Error(lendsText(list))
	}
}

// Nothing panics, and all calls end, whatever they are given.
func TestNoPanicAtWrongLending(t *testing.T) {
	places := append(formlessPlaces(), place("p"), place("p", 0, 1, 0, 1))
	for n, p := range endlessProgs() {
		for _, at := range []int{-1, 0, 1} {
			if list := impl.LendOf(p, at, 0); len(list) > 0 {
				t.Errorf("program %d: %v", n, list)
			}
		}
		for _, a := range places {
			if list := impl.LendEnds(p, 0, 0, a); len(list) > 0 {
				t.Errorf("program %d: %q", n, list)
			}
		}
	}
	// As much as there may be, each lent from the one ahead, which all end at once.
	var body []impl.Stmt
	var names []string
	last := "p"
	for n := range 40 {
		name := strings.Repeat("x", n%5+1) + "abcdefghi"[n/5:n/5+1]
		body = append(body, lend(name, place(last)))
		names = append([]string{name}, names...)
		last = name
	}
	p := fns(gives("f", params(lent("p", numberType)), body, numberType, place(last)))
	if got := impl.LendOf(p, 0, 40); len(got) != 40 || got[39].Name != last {
		t.Error(lendsText(got))
	}
	for n, name := range append(names, "p") {
		mustEnds(t, p, 0, 40, place(name), names[:n]...)
	}
	// The longest names, and the longest paths that a part can have.
	p = fns(says("f", params(lent("abcdef", deepType(4))), stmts(lend("uvwxyz", place("abcdef", 1, 1, 1))), numberType, num(0)))
	mustLends(t, p, 0, 1, "uvwxyz: abcdef.1.1.1")
	mustEnds(t, p, 0, 1, place("abcdef", 1, 1, 1), "uvwxyz")
	mustEnds(t, p, 0, 1, place("abcdef", 1, 1, 0))
	mustEnds(t, p, 0, 1, place("abcdef", 1, 1, 1, 1))
}
