package tests

import (
	"math"
	"strings"
	"testing"

	"loop.example/handfast/impl"
)

func TestWhichPlacesMeet(t *testing.T) {
	for _, c := range []struct {
		a, b string
		meet bool
	}{
		{"p", "p", true}, {"p.0", "p.0", true}, {"p.1.0.1", "p.1.0.1", true}, {"p.0.0.0.0", "p.0.0.0.0", true}, {"abcdef", "abcdef", true},
		{"p", "p.0", true}, {"p", "p.1", true}, {"p", "p.1.1.0.1", true}, {"p.0", "p.0.1", true}, {"p.1.0", "p.1.0.1.1", true},
		{"p.0", "p.1", false}, {"p.0", "p.1.0", false}, {"p.0.1", "p.1.1", false}, {"p.0.0", "p.0.1", false}, {"p.1.0.1", "p.1.0.0", false}, {"p.1.0.1", "p.1.1", false}, {"p.0.0.0.0", "p.0.0.0.1", false},
		{"p", "q", false}, {"p.0", "q.0", false}, {"p", "pp", false}, {"p", "q.0", false}, {"ab", "abc.0", false},
	} {
		a, b := placeFrom(c.a), placeFrom(c.b)
		if impl.LendMeet(a, b) != c.meet || impl.LendMeet(b, a) != c.meet || placesMeet(a, b) != c.meet {
			t.Errorf("LendMeet of %s and %s should be %v", c.a, c.b, c.meet)
		}
	}
	if impl.LendMeet(impl.Place{}, impl.Place{}) || impl.LendMeet(place("p"), impl.Place{}) || impl.LendMeet(impl.Place{}, place("p")) {
		t.Error("nothing meets")
	}
	if !impl.LendMeet(impl.Place{Name: "p", Path: []int{}}, impl.Place{Name: "p"}) {
		t.Error("the empty path is not the nil path")
	}
}

// What is not in form meets nothing, not even itself.
func TestPlacesThatAreNotInForm(t *testing.T) {
	bad := formlessPlaces()
	for _, a := range bad {
		for _, b := range append(formPlaces(), bad...) {
			if impl.LendMeet(a, b) || impl.LendMeet(b, a) {
				t.Fatalf("%.50q %.20v meets %.50q %.20v", a.Name, a.Path, b.Name, b.Path)
			}
		}
	}
	p := mustRead(t, "fn f\nlent p ((i,i),i)\nlent abcdef (i,i)\nlend r p.0\nlend s r.0\nlend u abcdef\nsays i 0\n")
	mustEnds(t, p, 0, 3, place("p"), "s", "r")
	mustEnds(t, p, 0, 3, place("abcdef", 1), "u")
	for _, a := range bad {
		for n := range 4 {
			if got := impl.LendEnds(p, 0, n, a); len(got) > 0 {
				t.Fatalf("%.50q %.20v ends %q behind %d", a.Name, a.Path, got, n)
			}
		}
	}
}

// lendCase is what is lent behind the statements of a function, and, of places, which names end by their use, a place and a colon ahead of each row.
type lendCase struct {
	lines string
	lent  string
	ends  []string
}

func checkLends(t *testing.T, ahead string, head string, list []lendCase) {
	t.Helper()
	for _, c := range list {
		p := mustRead(t, ahead+head+c.lines+"says i 0\n")
		last := len(p.Fns) - 1
		n := len(p.Fns[last].Body)
		mustCheck(t, p, 0, 0)
		mustLends(t, p, last, n, c.lent)
		if own := lendsText(lendsOf(p, last, n)); own != c.lent {
			t.Errorf("the tests' own rules tell %q of\n%s", own, c.lines)
		}
		for _, row := range c.ends {
			at, names, _ := strings.Cut(row, ":")
			mustEnds(t, p, last, n, placeFrom(at), strings.Fields(names)...)
			if own := endsOf(p, last, n, placeFrom(at)); strings.Join(own, " ") != strings.TrimSpace(names) {
				t.Errorf("the tests' own rules tell %q by %s of\n%s", own, at, c.lines)
			}
		}
	}
}

// What is lent from parameters, lent or not, from a name of its own, and from several places.
func TestWhatIsLentFromPlaces(t *testing.T) {
	checkLends(t, ahead, head, []lendCase{
		{"", "", []string{"p:", "p.0:", "n:", "m.1:", "zz:"}},
		{"let v 1\nset v 2\ncall x none\ncall y two to p.0 to p.1\n", "", []string{"v:", "x:", "y:", "p:", "p.0:", "p.1:"}},
		{"lend r p\n", "r: p", []string{"p: r", "p.0: r", "p.1: r", "r:", "r.0:", "q:", "n:", "m:"}},
		{"lend r p.0\n", "r: p.0", []string{"p: r", "p.0: r", "p.1:", "r:", "q.0:"}},
		{"lend r n\n", "r: n", []string{"n: r", "r:", "m:", "p:"}},
		{"lend r m.1\n", "r: m.1", []string{"m: r", "m.0:", "m.1: r"}},
		{"let v , 1 , 2 3\nlend r v.1\n", "r: v.1", []string{"v: r", "v.0:", "v.1: r", "v.1.0: r", "v.1.1: r", "r.0:"}},
		{"lend r p.0\nlend s p.1\nlend u q\n", "r: p.0; s: p.1; u: q", []string{"p: s r", "p.0: r", "p.1: s", "q: u", "q.1: u", "r:", "s:", "u:"}},
		// Lent from two places, in their order.
		{"pick r p.0 q.1 @n\n", "r: p.0 q.1", []string{"p.0: r", "p: r", "q.1: r", "q: r", "p.1:", "q.0:", "r:"}},
		{"pick r q.1 p.0 1\n", "r: q.1 p.0", []string{"p.0: r", "q.1: r", "p.1:", "q.0:"}},
		{"pick r p.1 p.0 1\n", "r: p.1 p.0", []string{"p: r", "p.0: r", "p.1: r", "q:"}},
		{"call r out to p.0 to q.1 of 1\n", "r: p.0 q.1", []string{"p: r", "q.1: r", "p.1:", "q.0:", "n:"}},
		{"call r out to n to m.0 of @p.0\n", "r: n m.0", []string{"n: r", "m: r", "m.0: r", "m.1:", "p.0:"}},
		{"let v 1\npick r v p.0 1\ncall s out to q.0 to p.1 of @n\n", "r: v p.0; s: q.0 p.1", []string{"v: r", "p: s r", "p.0: r", "p.1: s", "q: s", "q.0: s", "q.1:"}},
		// What a function says is a name of its own, whatever is lent to the call.
		{"call x mix to p.0 of 1 to q\nlend r x\n", "r: x", []string{"x: r", "x.0: r", "p:", "q:"}},
		// Names are told as they were given, whatever they are.
		{"lend z p.0\nlend a p.1\nlend k q\n", "z: p.0; a: p.1; k: q", []string{"p: a z"}},
	})
	// A function gives out one place, and what it is lent from is all places that are lent to the call.
	checkLends(t, "fn one\nlent a (i,i)\ngives i a.0\nfn four\nlent a i\nlent b (i,i)\nlent c i\nlent d i\ngives i c\nfn half\nhas n i\nlent a i\nhas m i\ngives i a\n", head, []lendCase{
		{"call r one to p\n", "r: p", []string{"p.0: r", "p.1: r", "p: r", "q:"}},
		{"call r four to q.1 to p to n to q.0\n", "r: q.1 p n q.0", []string{"q.1: r", "p.0: r", "p.1: r", "n: r", "q.0: r", "q: r", "m:", "r:"}},
		{"call r half of @p.0 to p.1 of @q.0\n", "r: p.1", []string{"p.0:", "q.0:", "p.1: r", "p: r"}},
		{"call r one to p\ncall s half of @r to q.0 of @r\n", "r: p; s: q.0", []string{"r:", "p: r", "q: s"}},
	})
}

// What is lent from what is lent ends with it, and ahead of it.
func TestWhatIsLentFromWhatIsLent(t *testing.T) {
	checkLends(t, ahead, head, []lendCase{
		{"lend r p\nlend s r.0\n", "r: p; s: r.0", []string{"p: s r", "p.0: s r", "p.1: s r", "r: s", "r.0: s", "r.1:", "s:"}},
		{"lend r p\nlend s r.0\nlend u s\nlend w u\n", "r: p; s: r.0; u: s; w: u", []string{"p.1: w u s r", "r.0: w u s", "r.1:", "s: w u", "u: w", "w:"}},
		{"lend r p\nlend s r.0\nlend o q.0\nlend u r.1\nlend w s\n", "r: p; s: r.0; o: q.0; u: r.1; w: s", []string{"p: w u s r", "r: w u s", "r.0: w s", "r.1: u", "q: o", "s: w", "u:"}},
		{"lend o p.0\nlend r q\npick s o r.1 1\nlend u s\n", "o: p.0; r: q; s: o r.1; u: s", []string{"p: u s o", "p.0: u s o", "p.1:", "q.0: u s r", "o: u s", "r.0:", "r.1: u s", "r: u s", "s: u", "u:"}},
		{"lend a p\npick s a.0 a.1 1\n", "a: p; s: a.0 a.1", []string{"p: s a", "a: s", "a.0: s", "a.1: s"}},
		{"lend a p.1\ncall r out to a to q.0 of 1\ncall s out to p.0 to r of 1\nlend u s\n", "a: p.1; r: a q.0; s: p.0 r; u: s", []string{"p: u s r a", "p.0: u s", "p.1: u s r a", "q: u s r", "q.1:", "a: u s r", "r: u s", "s: u", "u:"}},
		{"let v @m\nlend r v\nlend s r.1\ncall u out to s to r.0 of 1\n", "r: v; s: r.1; u: s r.0", []string{"v: u s r", "v.0: u s r", "r.1: u s", "r.0: u", "s: u", "m:"}},
		// One that ends by two ways is told once.
		{"lend a p.0\nlend b p.1\npick c a b 1\nlend d c\n", "a: p.0; b: p.1; c: a b; d: c", []string{"p: d c b a", "p.0: d c a", "p.1: d c b"}},
		{"lend a p\npick b a.0 q.0 1\npick c b a.1 1\n", "a: p; b: a.0 q.0; c: b a.1", []string{"a: c b", "p: c b a", "a.1: c", "a.0: c b", "q: c b"}},
	})
}

// What has ended is lent no longer, nor what was lent in a choice, behind it; what was lent ahead of one stays so, if it does on both ways.
func TestWhatIsLentNoLonger(t *testing.T) {
	checkLends(t, ahead, head, []lendCase{
		{"lend r p.0\nset p.0 1\n", "", []string{"p:", "p.0:", "r:"}},
		{"lend r p.0\nlend s p.0\n", "s: p.0", []string{"p: s", "r:", "s:"}},
		{"lend r p\nlend s r.0\nset r.0 1\n", "r: p", []string{"p: r", "r.0:", "s:"}},
		{"lend r p\nlend s r.0\nlend u q\nset p.1 1\n", "u: q", []string{"p:", "q: u", "r:", "s:"}},
		{"pick r p.0 q.0 1\nlend s r\nlet x @q\n", "", []string{"p:", "q:", "x:"}},
		{"lend r p.0\nlend s q.0\nif @n\nset p.0 1\nelse\nend\n", "s: q.0", []string{"p: ", "q: s", "r:"}},
		{"lend r p.0\nlend s q.0\nif @n\nelse\nset q.0 1\nend\n", "r: p.0", []string{"p: r", "q:", "s:"}},
		{"lend r p.0\nlend s q.0\nif @n\nset p.0 1\nelse\nset q.0 1\nend\n", "", []string{"p:", "q:"}},
		{"lend r p\nlend s r.0\nif @n\nset r.0 1\nelse\nset s 1\nend\n", "r: p", []string{"r:", "p: r", "s:"}},
		{"lend r p\nlend s r.0\nif @n\nset r.1 1\nelse\nset s 1\nend\n", "r: p; s: r.0", []string{"r: s", "p: s r"}},
		{"lend r p.0\nif @n\nlend a p.1\nset a 1\nelse\nlend b q\ncall c out to b.0 to r of 1\nend\n", "r: p.0", []string{"p: r", "p.1:", "q:", "a:", "b:", "b.0:", "c:"}},
		{"lend r p.0\nif @n\nif 1\nlend a r\nelse\nset p.0 1\nend\nelse\nend\nlend s p.1\n", "s: p.1", []string{"p: s", "p.0:", "r:", "a:"}},
		{"if @n\nlend a p\nelse\nlend b p\nend\nlend r p\nlend s r.1\n", "r: p; s: r.1", []string{"p.0: s r", "a:", "a.1:", "b:"}},
	})
}

// A place that may not be used ends nothing: its name is not given there, or not yet, or has ended, or has no such part.
func TestPlacesThatMayNotBeUsed(t *testing.T) {
	checkLends(t, ahead, head, []lendCase{
		{"lend r p.0\nlend s r\nlend u q\n", "r: p.0; s: r; u: q", []string{"p.0.0:", "p.0.1:", "p.0.0.0.0:", "q.1.1:", "r.0:", "r.1.1:", "s.1:", "u.0.0:", "zz:", "f:", "two:", "a:", "b.0:"}},
		{"lend r n\n", "r: n", []string{"n: r", "n.0:", "n.1:", "n.1.1.1.1:"}},
	})
	p := mustRead(t, "fn f\nlent p (i,i)\nlend r p\nlend s r.0\nset p.0 1\nlend u p.0\nsays i 0\n")
	for n, want := range [][]string{nil, nil, {"s"}, nil, nil} {
		mustEnds(t, p, 0, n, place("r"), want...)
		mustEnds(t, p, 0, n, place("r", 1))
		mustEnds(t, p, 0, n, place("s"))
		mustEnds(t, p, 0, n, place("u"))
	}
	for n, want := range [][]string{nil, {"r"}, {"s", "r"}, nil, {"u"}} {
		mustEnds(t, p, 0, n, place("p", 0), want...)
		mustEnds(t, p, 0, n, place("p", 0, 0))
	}
}

// Behind each number of statements, from none to all; what is said, or given out, is behind all of them.
func TestWhatIsLentStepByStep(t *testing.T) {
	text := ahead + head + "lend r p.0\nlet x 1\npick s r q.0 @n\nif @x\nlend a p.1\nset a 1\nelse\nlet b 1\nend\nset q.0 2\nlend u p\ncall v out to u.0 to q.1 of 1\nset u.0 3\nif @n\nelse\nset p.1 1\nend\nset x 2\n"
	p := mustRead(t, text+"says i 0\n")
	for n, want := range []string{"", "r: p.0", "r: p.0", "r: p.0; s: r q.0", "r: p.0; s: r q.0", "r: p.0", "u: p", "u: p; v: u.0 q.1", "u: p", "", ""} {
		mustLends(t, p, 4, n, want)
	}
	for n, want := range []string{"", "r", "r", "s r", "s r", "r", "u", "v u", "u", "", ""} {
		mustEnds(t, p, 4, n, place("p"), strings.Fields(want)...)
	}
	mustLends(t, p, 3, 0, "")
	mustLends(t, p, 3, 1, "c: a b")
	mustEnds(t, p, 3, 1, place("b"), "c")
	mustEnds(t, p, 3, 0, place("b"))
	for _, end := range []string{"says i @p\n", "gives i p\n"} {
		p = mustRead(t, "fn f\nlent p i\nlend r p\n"+end)
		mustLends(t, p, 0, 1, "r: p")
		mustEnds(t, p, 0, 1, place("p"), "r")
	}
}

// tellsNothing checks that of these nothing is told.
func tellsNothing(t *testing.T, p impl.Prog, at int, n int) {
	t.Helper()
	if got := impl.LendOf(p, at, n); len(got) > 0 {
		t.Fatalf("LendOf %d behind %d is %v", at, n, got)
	}
	for _, name := range []string{"p", "q", "n", "r", "aa", "ab", "zz", ""} {
		if got := impl.LendEnds(p, at, n, place(name)); len(got) > 0 {
			t.Fatalf("LendEnds %d behind %d by %q is %q", at, n, name, got)
		}
	}
}

func TestNothingIsLentWhereThereIsNothing(t *testing.T) {
	numbers := []int{math.MinInt, -2, -1}
	for _, p := range fineProgs(t, 40) {
		for _, at := range append(numbers, len(p.Fns), len(p.Fns)+1, math.MaxInt) {
			for _, n := range append(numbers, 0, 1, math.MaxInt) {
				tellsNothing(t, p, at, n)
			}
		}
		for at, fn := range p.Fns {
			for _, n := range append(numbers, len(fn.Body)+1, len(fn.Body)+2, math.MaxInt) {
				tellsNothing(t, p, at, n)
			}
		}
	}
	tellsNothing(t, impl.Prog{}, 0, 0)
}

// Of a program that is not fine nothing is told, also of functions, and of statements, that are.
func TestNothingIsLentInWhatIsNotFine(t *testing.T) {
	fine := "fn e\nlent p (i,i)\nhas n i\nlend r p\nlet q 1\n"
	p := mustRead(t, fine+"says i 0\n")
	mustLends(t, p, 0, 2, "r: p")
	mustEnds(t, p, 0, 2, place("p"), "r")
	for _, text := range []string{
		fine + "says i @zz\n", fine + "says (i,i) @n\n", fine + "gives i n\n", fine + "let q 1\nsays i 0\n", fine + "set p.0 1\nset r.0 1\nsays i 0\n",
		fine + "says i 0\nfn f\nsays i @x\n", fine + "says i 0\nfn e\nsays i 0\n", "fn f\nsays (i,i) 0\n" + fine + "says i 0\n",
	} {
		p := mustRead(t, text)
		for at := range 3 {
			for n := range 4 {
				tellsNothing(t, p, at, n)
			}
		}
	}
	p = copyOf(p)
	changes(&p, func() {
		if code, _ := faultOf(p); code != 0 {
			tellsNothing(t, p, 0, 1)
			tellsNothing(t, p, 0, 2)
		}
	})
	fault := 0
	for _, p := range likelyProgs(300, 8) {
		if code, _ := faultOf(p); code != 0 {
			fault++
			eachBehind(p, func(at int, n int) { tellsNothing(t, p, at, n) })
		}
	}
	if fault < 50 {
		t.Error("the test made too few programs that are not fine:", fault)
	}
}
