package tests

import (
	"math/rand"
	"slices"
	"strings"
	"testing"

	"loop.example/handfast/impl"
)

// sayCase is what a function is given, and what should come of it, in words.
type sayCase struct {
	given string
	want  string
}

// saysLast runs the last of functions, and holds the tests' own rules against what should come of it, too.
func saysLast(t *testing.T, text string, list ...sayCase) {
	t.Helper()
	fns := puresFrom(text)
	if got := impl.PureText(fns); got != text {
		t.Fatalf("%q is written as %q", text, got)
	}
	name := fns[len(fns)-1].Name
	for _, c := range list {
		args := valsFrom(c.given)
		if got := inWords(impl.PureRun(fns, name, args)); got != c.want {
			t.Errorf("with %q it %s, it should be: %s, in\n%s", c.given, got, c.want, text)
		}
		if got := pureWords(fns, name, args); got != c.want {
			t.Errorf("the tests' own rules: with %q it %s, it should be: %s, in\n%s", c.given, got, c.want, text)
		}
	}
}

// termCase is a term, and what it says; or that it fails.
type termCase struct {
	term string
	want string
}

// The terms are given a 4, b (5,6), c ((1,2),(3,4)) and d (((1,2),(3,4)),((5,6),(7,8))).
const (
	termNames = "a b c d"
	termGiven = "4 (5,6) ((1,2),(3,4)) (((1,2),(3,4)),((5,6),(7,8)))"
)

// saysTerm tries a term at each place where one may stand; X is the term, and ALL what is given.
func saysTerm(t *testing.T, c termCase) {
	t.Helper()
	fill := func(text string) string {
		return strings.NewReplacer("X", c.term, "NAMES", termNames, "ALL", "a; b; c; d").Replace(text)
	}
	says, seven, either := "says "+c.want, "says 7", "says 1"
	if c.want == "fails" {
		says, seven, either = "fails", "fails", "fails"
	}
	if strings.HasPrefix(c.want, "(") {
		either = "fails"
	}
	if c.want == "0" {
		either = "says 2"
	}
	for _, way := range []struct{ text, want string }{
		{"f NAMES\n say X\n", says},
		{"f NAMES\n x = X\n say x\n", says},
		{"f NAMES\n x = X\n x = x\n y = x\n x = 1\n say y\n", says},
		{"f NAMES\n x = X\n say 7\n", seven},
		{"e x\n say x\nf NAMES\n let y = e X\n say y\n", says},
		{"e x\n say\nf NAMES\n let = e X\n say 7\n", seven},
		{"e x y\n say y; x\nf NAMES\n let x y = e 3; X\n say x\n", says},
		{"e NAMES\n say X\nf NAMES\n let y = e ALL\n say y\n", says},
		{"e NAMES\n x = X\n say\nf NAMES\n let = e ALL\n say 7\n", seven},
		{"e NAMES\n say X\nf NAMES\n let y = e ALL\n say y\ng NAMES\n let y = f ALL\n say y\n", says},
		{"e x\n say x\nf NAMES\n let y = e X\n say 7\ng NAMES\n let y = f ALL\n say y\n", seven},
		{"f NAMES\n if 1\n  say X\n else\n  say 7\n for y\n say y\n", says},
		{"f NAMES\n if 0\n  say 7\n else\n  x = X\n  say x\n for y\n say y\n", says},
		{"f NAMES\n if 1\n  if 0\n   say 8\n  else\n   say X\n  for y\n  say y\n else\n  say 7\n for y\n say y\n", says},
		{"f NAMES\n if 0\n  say X\n else\n  say 7\n for y\n say y\n", "says 7"},
		{"f NAMES\n if 1\n  say 7\n else\n  x = X\n  say x\n for y\n say y\n", "says 7"},
		{"e x\n say x\nf NAMES\n if 0\n  let y = e X\n  say\n else\n  say\n for\n say 7\n", "says 7"},
		{"f NAMES\n if 0\n  if X\n   say\n  else\n   say\n  for\n  say\n else\n  say\n for\n say 7\n", "says 7"},
		{"e NAMES\n say X\nf NAMES\n if 1\n  say\n else\n  let x = e ALL\n  say\n for\n say 7\n", "says 7"},
		{"e NAMES\n say X\nf NAMES\n say 7\n", "says 7"},
		{"f NAMES\n if X\n  say 1\n else\n  say 2\n for y\n say y\n", either},
		{"f NAMES\n if X\n  say\n else\n  say\n for\n say 7\n", map[bool]string{true: "fails", false: "says 7"}[either == "fails"]},
		{"f NAMES\n say at X; 3\n", map[bool]string{true: "fails", false: says + " 3"}[says == "fails"]},
	} {
		saysLast(t, fill(way.text), sayCase{termGiven, way.want})
	}
}

func TestWhatTermsSay(t *testing.T) {
	for _, c := range []termCase{
		{"0", "0"}, {"7", "7"}, {"9999", "9999"},
		{"a", "4"}, {"b", "(5,6)"}, {"c", "((1,2),(3,4))"}, {"d", "(((1,2),(3,4)),((5,6),(7,8)))"},
		// A sum, up to just ValMax.
		{"+ a 5", "9"}, {"+ 0 0", "0"}, {"+ 9995 a", "9999"}, {"+ a 9995", "9999"}, {"+ a 9996", "fails"}, {"+ 9999 1", "fails"}, {"+ 1 9999", "fails"}, {"+ 9999 0", "9999"}, {"+ 9999 9999", "fails"}, {"+ 5000 5000", "fails"}, {"+ a a", "8"}, {"+ + 1 2 + 3 a", "10"},
		{"+ a b", "fails"}, {"+ b a", "fails"}, {"+ b b", "fails"}, {"+ 0 c", "fails"}, {"+ d 0", "fails"},
		// A difference, down to just 0.
		{"- a 1", "3"}, {"- a 4", "0"}, {"- a 5", "fails"}, {"- 0 0", "0"}, {"- 0 1", "fails"}, {"- 9999 9999", "0"}, {"- 9999 a", "9995"}, {"- a 9999", "fails"}, {"- - 9 2 3", "4"}, {"- 9 - 3 2", "8"}, {"- 9 - 2 3", "fails"}, {"+ 1 - 0 1", "fails"},
		{"- a b", "fails"}, {"- b a", "fails"}, {"- b b", "fails"},
		// A comparison.
		{"< a 5", "1"}, {"< a 4", "0"}, {"< a 3", "0"}, {"< 3 a", "1"}, {"< 0 0", "0"}, {"< 0 9999", "1"}, {"< 9999 0", "0"}, {"< < 1 2 < 2 3", "0"}, {"< a b", "fails"}, {"< b a", "fails"}, {"< b b", "fails"}, {"< - 0 1 5", "fails"}, {"< 5 - 0 1", "fails"},
		// A pair, up to just TypeMaxDeep.
		{", a 1", "(4,1)"}, {", 1 a", "(1,4)"}, {", a a", "(4,4)"}, {", b a", "((5,6),4)"}, {", a c", "(4,((1,2),(3,4)))"}, {", c c", "(((1,2),(3,4)),((1,2),(3,4)))"}, {", c , b 9", "(((1,2),(3,4)),((5,6),9))"}, {", , , 1 2 3 4", "(((1,2),3),4)"}, {", 1 , 2 , 3 4", "(1,(2,(3,4)))"},
		{", a d", "fails"}, {", d a", "fails"}, {", d d", "fails"}, {", , , , 1 2 3 4 5", "fails"}, {", 1 , 2 , 3 , 4 5", "fails"}, {", , c a b", "fails"}, {", b , 0 c", "fails"}, {"at.0 , a d", "fails"}, {", 1 - 0 1", "fails"}, {", + 9999 1 0", "fails"},
		// A part.
		{"at a", "4"}, {"at b", "(5,6)"}, {"at.0 b", "5"}, {"at.1 b", "6"}, {"at.1 c", "(3,4)"}, {"at.1.0 c", "3"}, {"at.0.1 c", "2"}, {"at.0.1.0 d", "3"}, {"at.1.1.1 d", "8"}, {"at.1.0 d", "(5,6)"}, {"at.1 at.0 c", "2"}, {"at.0 , a b", "4"}, {"at.1 , a b", "(5,6)"}, {"at.1.0 , a b", "5"},
		{"at.0 a", "fails"}, {"at.1 a", "fails"}, {"at.0 7", "fails"}, {"at.0.0 b", "fails"}, {"at.1.0 b", "fails"}, {"at.0.0.0 c", "fails"}, {"at.0.0.0.0 d", "fails"}, {"at.1.1.1.1 d", "fails"}, {"at.0.0 , a b", "fails"}, {"at.0 at.0 b", "fails"}, {"at.0.0.0.0 a", "fails"}, {"at - 0 1", "fails"}, {"at.0 , 1 - 0 1", "fails"},
		// Another part.
		{"put a 9", "9"}, {"put b c", "fails"}, {"put b , 1 2", "(1,2)"}, {"put a b", "fails"}, {"put b a", "fails"}, {"put.0 b 9", "(9,6)"}, {"put.1 b a", "(5,4)"}, {"put.0 c b", "((5,6),(3,4))"}, {"put.1 c b", "((1,2),(5,6))"}, {"put.1.0 c 9", "((1,2),(9,4))"}, {"put.0.1 d b", "(((1,2),(5,6)),((5,6),(7,8)))"}, {"put.1 d c", "(((1,2),(3,4)),((1,2),(3,4)))"}, {"put.1.1.1 d 0", "(((1,2),(3,4)),((5,6),(7,0)))"},
		{"put.0 b b", "fails"}, {"put.0 b c", "fails"}, {"put.0 c a", "fails"}, {"put.0 c c", "fails"}, {"put.1 c , a b", "fails"}, {"put.1 c , b a", "fails"}, {"put.1 d , b a", "fails"}, {"put.0 d c", "(((1,2),(3,4)),((5,6),(7,8)))"}, {"put.0.0.0 d b", "fails"},
		{"put.0 a 1", "fails"}, {"put.1 a b", "fails"}, {"put.0.0 b 1", "fails"}, {"put.0.1 b b", "fails"}, {"put.0.0.0 c 1", "fails"}, {"put.1.1.1.1 d 1", "fails"}, {"put.0 7 7", "fails"},
		{"put.0 put.1 b 1 2", "(2,1)"}, {"put.0 put.0 b 1 2", "(2,6)"}, {"put.1 b at.0 b", "(5,5)"}, {"put.0 b - 0 1", "fails"}, {"put.0 , - 0 1 1 1", "fails"}, {"put + 9999 1 1", "fails"}, {"at.0 put.1 b 9", "5"}, {"at.1 put.1 b 9", "9"},
	} {
		saysTerm(t, c)
	}
}

// A sum and a difference of each number with its edges.
func TestEveryNumberAtItsEdge(t *testing.T) {
	list := puresFrom("add a b\n say + a b\nsub a b\n say - a b\nless a b\n say < a b; < b a\n")
	words := func(ok bool, n int) string {
		if !ok {
			return "fails"
		}
		return "says " + valText(number(n))
	}
	for n := range 10000 {
		for _, m := range []int{9998 - n, 9999 - n, 10000 - n, n - 1, n, n + 1} {
			if m < 0 || m > 9999 {
				continue
			}
			args := []impl.Val{number(n), number(m)}
			mustSay(t, list, "add", args, words(n+m <= 9999, n+m))
			mustSay(t, list, "sub", args, words(n >= m, n-m))
			mustSay(t, list, "less", args, map[int]string{-1: "says 1 0", 0: "says 0 0", 1: "says 0 1"}[sign(n-m)])
		}
	}
}

func sign(n int) int {
	switch {
	case n < 0:
		return -1
	case n > 0:
		return 1
	}
	return 0
}

// Each part of a value of each type is found, and each other one is put, or not, as ValAt and ValPut say.
func TestPartsOfEveryType(t *testing.T) {
	others := append(valsOf(numberType), valsOf(pairType(numberType, numberType))...)
	for _, kind := range okTypes() {
		if deepOf(kind) > 3 {
			continue
		}
		v := counted(kind, 1)
		for size := 0; size <= 4; size++ {
			for _, path := range pathsOf(size, []int{0, 1}) {
				at, put := pure("at", "v", saying(terms(atTerm(nameTerm("v"), path...)))), pure("put", "v w", saying(terms(putTerm(nameTerm("v"), nameTerm("w"), path...))))
				list := []impl.Pure{at, put}
				mustSay(t, list, "at", []impl.Val{v}, pureWords(list, "at", []impl.Val{v}))
				part, ok := partVal(v, path)
				if ok {
					mustSay(t, list, "put", []impl.Val{v, part}, "says "+valText(v))
				}
				for _, w := range others {
					mustSay(t, list, "put", []impl.Val{v, w}, pureWords(list, "put", []impl.Val{v, w}))
				}
			}
		}
	}
}

func TestWhatBindingsGiveNamesTo(t *testing.T) {
	saysLast(t, "f\n say\n", sayCase{"", "says"})
	saysLast(t, "f\n say 3\n", sayCase{"", "says 3"})
	saysLast(t, "f a\n say\n", sayCase{"1", "says"}, sayCase{"(1,2)", "says"})
	saysLast(t, "f a b\n say b; a; 7; a\n", sayCase{"1 (2,3)", "says (2,3) 1 7 1"})
	// What was bound last counts, from there on.
	saysLast(t, "f a\n b = a\n a = + a 1\n c = a\n a = + a 1\n say a; b; c\n", sayCase{"5", "says 7 5 6"}, sayCase{"9997", "says 9999 9997 9998"}, sayCase{"9998", "fails"})
	saysLast(t, "f a\n a = , a a\n a = , a a\n say a\n", sayCase{"5", "says ((5,5),(5,5))"}, sayCase{"(1,2)", "says (((1,2),(1,2)),((1,2),(1,2)))"}, sayCase{"((1,2),3)", "fails"})
	saysLast(t, "f a b\n x = a\n a = b\n b = x\n say a; b; x\n", sayCase{"1 2", "says 2 1 1"})
	saysLast(t, "f p\n q = p\n p = put.0 p 9\n r = p\n q = put.1 q 8\n say p; q; r\n", sayCase{"(1,2)", "says (9,2) (1,8) (9,2)"})
	// Names of a call, in order; those of who is called are its own.
	saysLast(t, "g a b\n a = + a b\n x = 9\n say b; a\nf a b\n x = 1\n let b y = g a; b\n say a; b; x; y\n", sayCase{"3 4", "says 3 4 1 7"})
	saysLast(t, "g a b\n say b; a\nf a b\n let a b = g a; b\n let b a = g a; b\n say a; b\n", sayCase{"1 2", "says 2 1"})
	saysLast(t, "g a b\n say b; a\nf a b\n let a b = g b; b\n say a; b\n", sayCase{"1 2", "says 2 2"})
	saysLast(t, "g a\n say + a 1\nf a\n let a = g a\n let a = g a\n let b = g a\n say a; b\n", sayCase{"1", "says 3 4"}, sayCase{"9996", "says 9998 9999"}, sayCase{"9997", "fails"})
	saysLast(t, "e a\n say + a a\ng a\n let a = e a\n let b = e a\n say a; b\nf a\n let x y = g a\n let y z = g y\n let a = e a\n say a; x; y; z\n", sayCase{"1", "says 2 2 8 16"})
	saysLast(t, "g\n say 1; 2; 3\nf\n let c a b = g\n say a; b; c\n", sayCase{"", "says 2 3 1"})
	saysLast(t, "g a\n x = - a 5\n say\nf a\n let = g a\n say a\n", sayCase{"5", "says 5"}, sayCase{"4", "fails"})
}

func TestWhatChoicesGiveNamesTo(t *testing.T) {
	saysLast(t, "f a\n if a\n  say 1\n else\n  say 2\n for b\n say b\n", sayCase{"0", "says 2"}, sayCase{"1", "says 1"}, sayCase{"2", "says 1"}, sayCase{"9999", "says 1"}, sayCase{"(0,0)", "fails"}, sayCase{"(1,1)", "fails"})
	// Names that are bound anew in Then or Else are so there alone.
	saysLast(t, "f a x\n if a\n  x = + x 1\n  a = 7\n  say x; a\n else\n  a = 8\n  y = a\n  say y; x\n for y z\n say a; x; y; z\n", sayCase{"1 5", "says 1 5 6 7"}, sayCase{"0 5", "says 0 5 8 5"}, sayCase{"0 9999", "says 0 9999 8 9999"}, sayCase{"1 9999", "fails"})
	saysLast(t, "f a b\n if a\n  say b; a\n else\n  say a; b\n for a b\n say a; b\n", sayCase{"1 2", "says 2 1"}, sayCase{"0 2", "says 0 2"})
	saysLast(t, "f a\n if a\n  a = 0\n  say a\n else\n  a = 1\n  say a\n for b\n if a\n  say 5\n else\n  say 6\n for c\n say a; b; c\n", sayCase{"3", "says 3 0 5"}, sayCase{"0", "says 0 1 6"})
	// Choices in choices, and both ways of other types.
	saysLast(t, "f a b\n if a\n  if b\n   say 1\n  else\n   say 2\n  for x\n  say x\n else\n  if b\n   say 3\n  else\n   say 4\n  for x\n  say x\n for x\n say x\n", sayCase{"1 1", "says 1"}, sayCase{"1 0", "says 2"}, sayCase{"0 1", "says 3"}, sayCase{"0 0", "says 4"}, sayCase{"0 (1,2)", "fails"}, sayCase{"(1,2) 1", "fails"})
	saysLast(t, "f a\n if a\n  x = 1\n  if < a 5\n   x = 2\n   say\n  else\n   x = 3\n   say\n  for\n  say x\n else\n  say 9\n for x\n say x\n", sayCase{"1", "says 1"}, sayCase{"7", "says 1"}, sayCase{"0", "says 9"})
	saysLast(t, "f a\n if a\n  say , 1 2\n else\n  say 3\n for x\n if a\n  y = at.0 x\n  say y\n else\n  say x\n for y\n say x; y\n", sayCase{"1", "says (1,2) 1"}, sayCase{"0", "says 3 3"})
	// The way that is not taken neither fails nor calls who fails.
	saysLast(t, "bad\n say - 0 1\nf a\n if a\n  let x = bad\n  say x\n else\n  say 5\n for x\n say x\n", sayCase{"0", "says 5"}, sayCase{"1", "fails"})
	saysLast(t, "bad\n say - 0 1\nf a\n if a\n  say 5\n else\n  let x = bad\n  say x\n for x\n say x\n", sayCase{"1", "says 5"}, sayCase{"0", "fails"})
	saysLast(t, "g a b\n say a; b\nf a\n if < a 5\n  let x y = g a; 1\n  say y; x\n else\n  let y x = g a; 2\n  say y; x\n for x y\n say x; y\n", sayCase{"3", "says 1 3"}, sayCase{"5", "says 5 2"})
	saysLast(t, "f a\n if a\n  say\n else\n  x = - 0 1\n  say\n for\n say a\n", sayCase{"1", "says 1"}, sayCase{"0", "fails"})
}

// What is not given as it is asked for is bad, also where the run would fail.
func TestRunsThatAreNotAskedFor(t *testing.T) {
	list := puresFrom("none\n say 1\none a\n say a\ntwo a b\n say b; a\nbad a\n say - 0 1\n")
	for _, name := range []string{"", "non", "nonee", "None", "none ", "a", "three", "say", "\x00", strings.Repeat("a", 1<<16)} {
		for n := range 4 {
			if got := inWords(impl.PureRun(list, name, again(n, number(1)))); got != "bad" {
				t.Errorf("%.20q with %d %s", name, n, got)
			}
		}
	}
	want := map[string][]string{"none": {"says 1", "bad", "bad", "bad"}, "one": {"bad", "says 5", "bad", "bad"}, "two": {"bad", "bad", "says 5 5", "bad"}, "bad": {"bad", "fails", "bad", "bad"}}
	for name, words := range want {
		for n, word := range words {
			mustSay(t, list, name, again(n, number(5)), word)
		}
	}
	for _, odd := range oddVals() {
		mustSay(t, list, "none", []impl.Val{odd}, "bad")
		mustSay(t, list, "one", []impl.Val{odd}, "bad")
		mustSay(t, list, "bad", []impl.Val{odd}, "bad")
		mustSay(t, list, "two", []impl.Val{odd, number(1)}, "bad")
		mustSay(t, list, "two", []impl.Val{number(1), odd}, "bad")
		mustSay(t, list, "two", []impl.Val{odd, odd}, "bad")
	}
	for _, kind := range okTypes() {
		v := counted(kind, 1)
		mustSay(t, list, "one", []impl.Val{v}, "says "+valText(v))
	}
	if got := inWords(impl.PureRun(nil, "f", nil)); got != "bad" {
		t.Error("no functions:", got)
	}
	if got := inWords(impl.PureRun(nil, "", nil)); got != "bad" {
		t.Error("no functions, and no name:", got)
	}
	// A fault anywhere, behind or elsewhere, is one of all.
	for _, text := range pureWrong {
		wrong := append(puresFrom("zz a\n say a\n"), puresFrom(text)...)
		mustSay(t, wrong, "zz", valsFrom("1"), "bad")
	}
}

// Functions that are not ok are bad even if they would be run otherwise; of wrong values, too.
func TestWrongFunctionsWithWrongValues(t *testing.T) {
	for _, text := range pureWrong {
		list := puresFrom(text)
		for _, odd := range append(oddVals(), number(1)) {
			for n := range 3 {
				if got := inWords(impl.PureRun(list, list[0].Name, again(n, odd))); got != "bad" {
					t.Errorf("%s, with %v: %q", got, odd, text)
				}
			}
		}
	}
}

// What comes of any run is what the rules say that are told in another way.
func TestAnyPureRun(t *testing.T) {
	t.Parallel()
	count := map[string]int{}
	eachPure(t, 3000, func(list []impl.Pure, at int, args []impl.Val) {
		want := pureWords(list, list[at].Name, args)
		count[want[:4]]++
		mustSay(t, list, list[at].Name, args, want)
	})
	if count["says"] < 5000 || count["fail"] < 1000 {
		t.Error("the test made too few runs of some kind:", count)
	}
}

// Texts of any functions are those of the rules that are told in another way, and are read back as the same.
func TestAnyPureText(t *testing.T) {
	r := rand.New(rand.NewSource(12))
	for range 2000 {
		list, _ := makePures(r)
		text := impl.PureText(list)
		if text != puresText(list) {
			t.Fatalf("%q, not %q", text, puresText(list))
		}
		if !sameThing(puresFrom(text), list) {
			t.Fatalf("%q is read as %+v, but it was %+v", text, puresFrom(text), list)
		}
	}
}

// With values of other types than were thought of when they were made most runs fail, each alike.
func TestAnyRunOfOtherTypes(t *testing.T) {
	t.Parallel()
	r := rand.New(rand.NewSource(13))
	types := typesUpTo(4)
	count := map[string]int{}
	eachPure(t, 1000, func(list []impl.Pure, at int, args []impl.Val) {
		for n := range args {
			other := slices.Clone(args)
			other[n] = anyVals(r, []impl.Type{types[r.Intn(len(types))]})[0]
			want := pureWords(list, list[at].Name, other)
			count[want[:4]]++
			mustSay(t, list, list[at].Name, other, want)
		}
	})
	if count["says"] < 500 || count["fail"] < 500 {
		t.Error("the test made too few runs of some kind:", count)
	}
}
