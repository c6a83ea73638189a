package tests

import (
	"math"
	"math/rand"
	"slices"
	"strconv"
	"strings"
	"testing"

	"loop.example/handfast/impl"
)

// The terms are by a of i, b of (i,i), c of ((i,i),(i,i)) and d of a type that is as deep as may be.
const kindGiven = "i (i,i) ((i,i),(i,i)) (((i,i),(i,i)),((i,i),(i,i)))"

// kindsTerm tries a term by itself, and at each place where one may stand; X is the term, and ALL what is given.
func kindsTerm(t *testing.T, c termCase) {
	t.Helper()
	x := termsFrom(strings.Fields(c.term))[0]
	types := typesFrom(kindGiven)
	one, seven, either := "of "+c.want, "of i", "of i"
	if c.want == "none" {
		one, seven = "none", "none"
	}
	if c.want != "i" {
		either = "none"
	}
	mustKindTerm(t, strings.Fields(termNames), types, x, one)
	if got := termKindWords(strings.Fields(termNames), types, x); got != one {
		t.Errorf("the tests' own rules: %q is %s, it should be: %s", c.term, got, one)
	}
	for _, way := range []struct{ text, want string }{
		{"f NAMES\n say X\n", one},
		{"f NAMES\n x = X\n say x\n", one},
		{"f NAMES\n x = X\n x = x\n y = x\n x = , 1 1\n say y\n", one},
		{"f NAMES\n x = X\n say 7\n", seven},
		{"e x\n say x\nf NAMES\n let y = e X\n say y\n", one},
		{"e x\n say\nf NAMES\n let = e X\n say 7\n", seven},
		{"e x y\n say y; x\nf NAMES\n let x y = e 3; X\n say x\n", one},
		{"e NAMES\n say X\nf NAMES\n let y = e ALL\n say y\n", one},
		{"e NAMES\n x = X\n say\nf NAMES\n let = e ALL\n say 7\n", seven},
		{"e NAMES\n say X\nf NAMES\n let y = e ALL\n say y\ng NAMES\n let y = f ALL\n say y\n", one},
		{"f NAMES\n if 1\n  say X\n else\n  say X\n for y\n say y\n", one},
		// The way that no run takes counts, too.
		{"f NAMES\n if 1\n  say\n else\n  x = X\n  say\n for\n say 7\n", seven},
		{"f NAMES\n if 0\n  x = X\n  say\n else\n  say\n for\n say 7\n", seven},
		{"f NAMES\n if 1\n  if 0\n   x = X\n   say\n  else\n   say\n  for\n  say\n else\n  say\n for\n say 7\n", seven},
		{"e NAMES\n say X\nf NAMES\n if 1\n  say\n else\n  let x = e ALL\n  say\n for\n say 7\n", seven},
		{"f NAMES\n if 1\n  say X\n else\n  say 7\n for y\n say y\n", either},
		{"f NAMES\n if 1\n  say 7\n else\n  say X\n for y\n say y\n", either},
		{"f NAMES\n if X\n  say 1\n else\n  say 2\n for y\n say y\n", either},
		{"f NAMES\n if X\n  say\n else\n  say\n for\n say 7\n", either},
		// Who is not called does not count.
		{"e NAMES\n say X\nf NAMES\n say 7\n", "of i"},
		{"f NAMES\n say at X; 3\n", map[bool]string{true: "none", false: one + " i"}[one == "none"]},
	} {
		kindsLast(t, strings.NewReplacer("X", c.term, "NAMES", termNames, "ALL", "a; b; c; d").Replace(way.text), sayCase{kindGiven, way.want})
	}
}

// kindsLast asks for the types of the last of functions, and holds the tests' own rules against what they should be, too.
func kindsLast(t *testing.T, text string, list ...sayCase) {
	t.Helper()
	fns := puresFrom(text)
	if got := impl.PureText(fns); got != text {
		t.Fatalf("%q is written as %q", text, got)
	}
	name := fns[len(fns)-1].Name
	for _, c := range list {
		types := typesFrom(c.given)
		if got := ofWords(impl.KindOf(fns, name, types)); got != c.want {
			t.Errorf("with %q it is %s, it should be: %s, in\n%s", c.given, got, c.want, text)
		}
		if got := kindWords(fns, name, types); got != c.want {
			t.Errorf("the tests' own rules: with %q it is %s, it should be: %s, in\n%s", c.given, got, c.want, text)
		}
	}
}

func TestTypesOfTerms(t *testing.T) {
	two, four := "(i,i)", "((i,i),(i,i))"
	all := "(" + four + "," + four + ")"
	for _, c := range []termCase{
		{"0", "i"}, {"7", "i"}, {"9999", "i"}, {"a", "i"}, {"b", two}, {"c", four}, {"d", all},
		// Sums, differences and comparisons are of a type also where they would fail.
		{"+ a 5", "i"}, {"+ 9999 9999", "i"}, {"+ a a", "i"}, {"+ + 1 2 + 3 a", "i"}, {"- a 1", "i"}, {"- 0 9999", "i"}, {"- - 9 2 3", "i"}, {"< a 5", "i"}, {"< 5 - 0 1", "i"}, {"< < 1 2 < 2 3", "i"}, {"+ at.0 b at.1.1.1 d", "i"},
		{"+ a b", "none"}, {"+ b a", "none"}, {"+ b b", "none"}, {"+ 0 c", "none"}, {"+ d 0", "none"}, {"+ 1 + a b", "none"}, {"+ at.0 c 1", "none"},
		{"- a b", "none"}, {"- b a", "none"}, {"- b b", "none"}, {"- c 0", "none"}, {"- 0 d", "none"}, {"- - 1 b 2", "none"},
		{"< a b", "none"}, {"< b a", "none"}, {"< b b", "none"}, {"< c c", "none"}, {"< 0 d", "none"}, {"< < b b 1", "none"},
		// A pair, up to just TypeMaxDeep.
		{", a 1", two}, {", 1 a", two}, {", b a", "((i,i),i)"}, {", a b", "(i,(i,i))"}, {", a c", "(i,((i,i),(i,i)))"}, {", c a", "(((i,i),(i,i)),i)"}, {", b b", four}, {", c c", all}, {", c , b 9", "(((i,i),(i,i)),((i,i),i))"}, {", , , 1 2 3 4", "(((i,i),i),i)"}, {", 1 , 2 , 3 4", "(i,(i,(i,i)))"}, {", - 0 1 + 9999 1", two},
		{", a d", "none"}, {", d a", "none"}, {", d d", "none"}, {", b d", "none"}, {", , , , 1 2 3 4 5", "none"}, {", 1 , 2 , 3 , 4 5", "none"}, {", , c a b", "none"}, {", b , 0 c", "none"}, {"at.0 , a d", "none"}, {", 1 + b 1", "none"}, {", + b 1 1", "none"},
		// A part.
		{"at a", "i"}, {"at b", two}, {"at d", all}, {"at.0 b", "i"}, {"at.1 b", "i"}, {"at.1 c", two}, {"at.1.0 c", "i"}, {"at.0.1 c", "i"}, {"at.0 d", four}, {"at.1.0 d", two}, {"at.0.1.0 d", "i"}, {"at.1.1.1 d", "i"}, {"at.1 at.0 c", "i"}, {"at.0 , a b", "i"}, {"at.1 , a b", two}, {"at.1.0 , a b", "i"}, {"at.1 , b a", "i"}, {"at.0 , b a", two},
		{"at.0 a", "none"}, {"at.1 a", "none"}, {"at.0 7", "none"}, {"at.0.0 b", "none"}, {"at.1.0 b", "none"}, {"at.0.0.0 c", "none"}, {"at.0.0.0.0 d", "none"}, {"at.1.1.1.1 d", "none"}, {"at.0.0 , a b", "none"}, {"at.1.0 , b a", "none"}, {"at.0 at.0 b", "none"}, {"at.0.0.0.0 a", "none"}, {"at.0 + 1 2", "none"}, {"at.0 , 1 + b 1", "none"}, {"at + b b", "none"},
		// Another part.
		{"put a 9", "i"}, {"put b , 1 2", two}, {"put b b", two}, {"put d d", all}, {"put.0 b 9", two}, {"put.1 b a", two}, {"put.0 c b", four}, {"put.1 c b", four}, {"put.1.0 c 9", four}, {"put.0.1 d b", all}, {"put.1 d c", all}, {"put.1.1.1 d 0", all}, {"put.0 put.1 b 1 2", two}, {"put.1 b at.0 b", two}, {"put.0 b - 0 1", two}, {"put.0 , a b 1", "(i,(i,i))"}, {"put.1 , a b , 1 1", "(i,(i,i))"}, {"put.1.0 , a b 1", "(i,(i,i))"}, {"at.1 put.1 c b", two},
		// None is there.
		{"put.0 a 1", "none"}, {"put.1 a b", "none"}, {"put.0 7 7", "none"}, {"put.0.0 b 1", "none"}, {"put.0.1 b b", "none"}, {"put.0.0.0 c 1", "none"}, {"put.1.1.1.1 d 1", "none"}, {"put.0.0 , a b 1", "none"},
		// It is of another type.
		{"put a b", "none"}, {"put b a", "none"}, {"put b c", "none"}, {"put c b", "none"}, {"put d c", "none"}, {"put.0 b b", "none"}, {"put.0 b c", "none"}, {"put.0 c a", "none"}, {"put.0 c c", "none"}, {"put.1 c , a b", "none"}, {"put.1 d , b a", "none"}, {"put.0 d d", "none"}, {"put.0.0.0 d b", "none"}, {"put.1 , a b 1", "none"}, {"put.0 , a b b", "none"},
		{"put.0 + b 1 1", "none"}, {"put.0 b + b 1", "none"}, {"put.0 , + b 1 1 1", "none"}, {"put at.0 a 1", "none"},
	} {
		kindsTerm(t, c)
	}
}

// All terms of a name, a number, or two of these, and then those of two of some of them, are as the rules say that are told in another way.
func TestEachTermOfFewNames(t *testing.T) {
	names, types := strings.Fields("a b c d"), typesFrom("i (i,i) ((i,i),i) (i,((i,i),i))")
	count := kindly{}
	look := func(x impl.Term) {
		want := termKindWords(names, types, x)
		count[want != "none"]++
		mustKindTerm(t, names, types, x, want)
	}
	plain := terms(numTerm(1), nameTerm("a"), nameTerm("b"), nameTerm("c"), nameTerm("d"))
	var next []impl.Term
	for _, x := range plain {
		look(x)
		for _, y := range plain {
			for kind := 3; kind <= 6; kind++ {
				next = append(next, twoTerm(kind, x, y))
			}
			for _, path := range rightPaths()[:15] {
				next = append(next, putTerm(x, y, path...))
			}
		}
		for _, path := range rightPaths()[:15] {
			next = append(next, atTerm(x, path...))
		}
	}
	for n, x := range next {
		look(x)
		for _, path := range rightPaths()[:15] {
			look(atTerm(x, path...))
			look(putTerm(x, plain[n%5], path...))
			look(putTerm(plain[n%5], x, path...))
		}
		for kind := 3; kind <= 6; kind++ {
			look(twoTerm(kind, x, plain[n%5]))
			look(twoTerm(kind, next[n*7%len(next)], x))
		}
	}
	count.enough(t, 500, 10000)
}

// Each part of each type, and each other one that is put there.
func TestTypesOfPartsOfEveryType(t *testing.T) {
	for _, whole := range okTypes() {
		for size := 0; size <= 4; size++ {
			for _, path := range pathsOf(size, []int{0, 1}) {
				want := "none"
				part, ok := partType(whole, path)
				if ok {
					want = "of " + typeText(part, 4)
				}
				mustKindTerm(t, []string{"v"}, []impl.Type{whole}, atTerm(nameTerm("v"), path...), want)
				for _, other := range okTypes() {
					want := "none"
					if ok && sameType(part, other) {
						want = "of " + typeText(whole, 4)
					}
					mustKindTerm(t, []string{"v", "w"}, []impl.Type{whole, other}, putTerm(nameTerm("v"), nameTerm("w"), path...), want)
				}
			}
		}
		// Two of them make a pair, if it is not too deep, and numbers only of numbers.
		for _, other := range okTypes() {
			names, types := []string{"v", "w"}, []impl.Type{whole, other}
			both, number := "of "+typeText(pairType(whole, other), 4), "none"
			if deepOf(pairType(whole, other)) > 4 {
				both = "none"
			}
			if deepOf(pairType(whole, other)) == 2 {
				number = "of i"
			}
			mustKindTerm(t, names, types, twoTerm(6, nameTerm("v"), nameTerm("w")), both)
			for kind := 3; kind <= 5; kind++ {
				mustKindTerm(t, names, types, twoTerm(kind, nameTerm("v"), nameTerm("w")), number)
			}
		}
	}
}

// kindOrNot asks for the type of a term that is a number of a's type by the name a.
func kindOrNot(t *testing.T, what string, x impl.Term, ok bool) {
	t.Helper()
	for _, a := range typesFrom("i (i,i) (((i,i),i),i)") {
		got := oneOfWords(impl.KindTerm([]string{"a"}, []impl.Type{a}, x))
		want := termKindWords([]string{"a"}, []impl.Type{a}, x)
		if got != want || !ok && got != "none" {
			t.Errorf("%s: it is %s, it should be: %s: %s", what, got, want, sketch(x))
		}
	}
}

// A term that is not ok by the names is of no type, whatever is wrong with it.
func TestTypesOfTermsThatAreNotOk(t *testing.T) {
	a := nameTerm("a")
	for _, name := range []string{"b", "A", "", "aa", "a ", " "} {
		for _, x := range terms(nameTerm(name), twoTerm(3, a, nameTerm(name)), twoTerm(6, nameTerm(name), a), atTerm(nameTerm(name)), putTerm(a, nameTerm(name)), putTerm(nameTerm(name), a)) {
			kindOrNot(t, "another name", x, false)
			mustKindTerm(t, nil, nil, x, "none")
		}
	}
	mustKindTerm(t, nil, nil, a, "none")
	for _, n := range []int{math.MinInt, -1, 10000, math.MaxInt} {
		for _, x := range terms(numTerm(n), twoTerm(3, a, numTerm(n)), twoTerm(6, numTerm(n), a), atTerm(numTerm(n)), putTerm(a, numTerm(n))) {
			kindOrNot(t, "wrong number", x, false)
		}
	}
	for _, odd := range []int{math.MinInt, -1, 2, math.MaxInt} {
		for _, path := range [][]int{{odd}, {odd, 0}, {0, odd}, {0, 0, 0, odd}} {
			kindOrNot(t, "wrong path", atTerm(a, path...), false)
			kindOrNot(t, "wrong path", putTerm(a, numTerm(1), path...), false)
		}
	}
	// A path that is too long, also where its beginning leads to a part.
	for size := 0; size <= 6; size++ {
		for _, path := range [][]int{again(size, 0), again(size, 1)} {
			kindOrNot(t, "path", atTerm(a, path...), size <= 4)
			kindOrNot(t, "path", putTerm(a, numTerm(1), path...), size <= 4)
		}
	}
	for kind := 3; kind <= 8; kind++ {
		for side := range 2 {
			for deep := 1; deep <= 10; deep++ {
				kindOrNot(t, "deep", deepTerm(deep, kind, side), deep <= 8)
			}
			kindOrNot(t, "far too deep", deepTerm(100000, kind, side), false)
		}
	}
	// A sum, a part and another part of the whole may be just 8 deep.
	sum, whole, put := a, a, a
	for deep := 1; deep <= 9; deep++ {
		want := "of i"
		if deep > 8 {
			want = "none"
		}
		for _, x := range terms(sum, whole, put) {
			mustKindTerm(t, []string{"a"}, typesFrom("i"), x, want)
		}
		sum, whole, put = twoTerm(4-deep%2, numTerm(1), sum), atTerm(whole), putTerm(numTerm(1), put)
	}
}

// Of terms each field is tried that does not belong to their kind, each number of Kids, and each kind that is none.
func TestTypesOfTermsWithWhatDoesNotBelong(t *testing.T) {
	for _, x := range kindsOfTerms() {
		kindOrNot(t, "kind", x, true)
		num, name, path := x, x, x
		num.Num, name.Name, path.Path = 1, "a", []int{0}
		kindOrNot(t, "a number", num, x.Kind == 1)
		kindOrNot(t, "a name", name, x.Kind == 2)
		kindOrNot(t, "a path", path, x.Kind >= 7)
		for n := range 5 {
			other := x
			other.Kids = again(n, nameTerm("a"))
			kindOrNot(t, "Kids", other, n == len(x.Kids))
		}
		for _, kind := range []int{math.MinInt, -1, 0, 9, 10, math.MaxInt} {
			other := x
			other.Kind = kind
			kindOrNot(t, "kind", other, false)
			kindOrNot(t, "a Kid", twoTerm(6, numTerm(1), other), false)
			kindOrNot(t, "a Kid", atTerm(other), false)
			kindOrNot(t, "a Kid", putTerm(numTerm(1), other), false)
		}
	}
	kindOrNot(t, "nothing", impl.Term{}, false)
	// One thing is changed at a time.
	for _, x := range append(kindsOfTerms(), termsFrom(strings.Fields("put.0 , a at.0 , 1 2 + a 3; < at.1.0 , 1 , a 2 - 3 4"))...) {
		x := copyOf(x)
		changesOf(&x, func() { kindOrNot(t, "changed", x, true) })
	}
}

// oddTypes is types that are not ok.
func oddTypes() []impl.Type {
	i := numberType
	return []impl.Type{{Kids: []impl.Type{i}}, {Kids: []impl.Type{i, i, i}}, {Kids: []impl.Type{i, i, i, i}}, pairType(i, impl.Type{Kids: []impl.Type{i}}), pairType(impl.Type{Kids: []impl.Type{i, i, i}}, i), pairType(pairType(i, i), pairType(i, impl.Type{Kids: []impl.Type{i}})), deepType(5), pairType(deepType(4), i), deepType(100000), endlessType(), pairType(endlessType(), i)}
}

// What is wrong with the names or with the types counts also where the term is of a type by itself, or by other ones.
func TestNamesAndTypesOfTerms(t *testing.T) {
	one := numTerm(1)
	mustKindTerm(t, nil, nil, one, "of i")
	mustKindTerm(t, []string{}, []impl.Type{}, one, "of i")
	// Names that are none.
	for _, name := range []string{"", " ", "a b", "a.0", "ä", "a\n", "\x00", "\xff", "abcdefghijklm", strings.Repeat("a", 1<<16), "+", ";"} {
		mustKindTerm(t, []string{name}, typesFrom("i"), one, "none")
		mustKindTerm(t, []string{name}, typesFrom("i"), nameTerm(name), "none")
		mustKindTerm(t, []string{"a", name}, typesFrom("i i"), nameTerm("a"), "none")
		mustKindTerm(t, []string{name, "a"}, typesFrom("i i"), nameTerm("a"), "none")
	}
	for _, name := range []string{"a", "Z", "0", "_", "12", "say", "at", "abcdefghijkl", "T1", "a_"} {
		mustKindTerm(t, []string{name}, typesFrom("(i,i)"), nameTerm(name), "of (i,i)")
		mustKindTerm(t, []string{"x", name}, typesFrom("i (i,i)"), nameTerm(name), "of (i,i)")
	}
	// Such that stand twice, also of one type.
	mustKindTerm(t, strings.Fields("a a"), typesFrom("i i"), nameTerm("a"), "none")
	mustKindTerm(t, strings.Fields("a a"), typesFrom("i (i,i)"), one, "none")
	mustKindTerm(t, strings.Fields("a b a"), typesFrom("i i i"), nameTerm("b"), "none")
	mustKindTerm(t, strings.Fields("a b b"), typesFrom("i i i"), nameTerm("a"), "none")
	mustKindTerm(t, strings.Fields("a b A"), typesFrom("i i (i,i)"), nameTerm("A"), "of (i,i)")
	// Of a type that is not ok.
	for _, odd := range oddTypes() {
		mustKindTerm(t, []string{"a"}, []impl.Type{odd}, one, "none")
		mustKindTerm(t, []string{"a"}, []impl.Type{odd}, nameTerm("a"), "none")
		mustKindTerm(t, []string{"a"}, []impl.Type{odd}, atTerm(nameTerm("a"), 0), "none")
		mustKindTerm(t, []string{"a", "b"}, []impl.Type{numberType, odd}, nameTerm("a"), "none")
		mustKindTerm(t, []string{"b", "a"}, []impl.Type{odd, numberType}, nameTerm("a"), "none")
	}
	for _, kind := range okTypes() {
		mustKindTerm(t, []string{"a"}, []impl.Type{kind}, nameTerm("a"), "of "+typeText(kind, 4))
	}
	// Not as many as types.
	for n := range 5 {
		for m := range 5 {
			want := "none"
			if n == m {
				want = "of i"
			}
			mustKindTerm(t, numbered(n), again(m, numberType), one, want)
		}
	}
}

func TestLimitOfNamesOfTerms(t *testing.T) {
	for _, n := range []int{58, 59, 60, 61, 62, 1000, 1 << 16} {
		names, types := numbered(n), append(again(n-1, numberType), pairType(numberType, numberType))
		want := []string{"of i", "of i", "of (i,i)"}
		if n > 60 {
			want = again(3, "none")
		}
		for at, x := range terms(numTerm(1), nameTerm("n0"), nameTerm(names[n-1])) {
			mustKindTerm(t, names, types, x, want[at])
		}
		mustKindTerm(t, names, types[1:], numTerm(1), "none")
		mustKindTerm(t, names[1:], types, numTerm(1), "none")
	}
}

func TestTypesOfBindings(t *testing.T) {
	kindsLast(t, "f\n say\n", sayCase{"", "of"})
	kindsLast(t, "f\n say 3\n", sayCase{"", "of i"})
	kindsLast(t, "f a\n say\n", sayCase{"i", "of"}, sayCase{"(i,i)", "of"})
	kindsLast(t, "f a b\n say b; a; 7; a\n", sayCase{"i (i,i)", "of (i,i) i i i"}, sayCase{"(i,i) i", "of i (i,i) i (i,i)"})
	// Names that are bound anew, to another type.
	kindsLast(t, "f a\n b = a\n a = , a a\n c = a\n a = at.0 , a 1\n say a; b; c\n", sayCase{"i", "of (i,i) i (i,i)"}, sayCase{"(i,i)", "of ((i,i),(i,i)) (i,i) ((i,i),(i,i))"}, sayCase{"((i,i),i)", "none"})
	kindsLast(t, "f a\n a = , a a\n a = , a a\n say a\n", sayCase{"i", "of ((i,i),(i,i))"}, sayCase{"(i,i)", "of (((i,i),(i,i)),((i,i),(i,i)))"}, sayCase{"(i,(i,i))", "none"})
	kindsLast(t, "f a b\n x = a\n a = b\n b = x\n say a; b; x\n", sayCase{"i (i,i)", "of (i,i) i i"})
	kindsLast(t, "f a\n a = + a 1\n a = , a a\n a = + a 1\n say a\n", sayCase{"i", "none"})
	kindsLast(t, "f a\n a = , a a\n a = at.1 a\n a = + a 1\n say a\n", sayCase{"i", "of i"}, sayCase{"(i,i)", "none"})
	// What is of no type counts also where its name is used by nobody.
	kindsLast(t, "f a\n x = at.0 a\n say 1\n", sayCase{"(i,i)", "of i"}, sayCase{"i", "none"})
	kindsLast(t, "f a\n x = at.0 a\n x = 1\n say x\n", sayCase{"((i,i),i)", "of i"}, sayCase{"i", "none"})
	// What fails in each run is of a type.
	kindsLast(t, "f\n x = - 0 1\n y = + 9999 9999\n say , x y\n", sayCase{"", "of (i,i)"})
}

func TestTypesOfCalls(t *testing.T) {
	// One function is of other types at each call.
	kindsLast(t, "e a\n say a\nf a b\n let x = e a\n let y = e b\n let z = e , a b\n say x; y; z\n", sayCase{"i i", "of i i (i,i)"}, sayCase{"i (i,i)", "of i (i,i) (i,(i,i))"}, sayCase{"((i,i),i) i", "of ((i,i),i) i (((i,i),i),i)"}, sayCase{"(((i,i),i),i) i", "none"})
	kindsLast(t, "e a\n say , a a\nf a\n let a = e a\n let a = e a\n say a\n", sayCase{"i", "of ((i,i),(i,i))"}, sayCase{"(i,i)", "of (((i,i),(i,i)),((i,i),(i,i)))"}, sayCase{"((i,i),i)", "none"})
	kindsLast(t, "e a b\n say b; a\nf a b\n let x y = e a; b\n let y z = e y; a\n say x; y; z\n", sayCase{"i (i,i)", "of (i,i) i i"})
	// At the types that are given there it is of none, at others of one.
	kindsLast(t, "e a\n say at.0 a\nf a\n let x = e a\n say x\n", sayCase{"(i,i)", "of i"}, sayCase{"((i,i),i)", "of (i,i)"}, sayCase{"i", "none"})
	kindsLast(t, "e a\n say at.0 a\nf a b\n let x = e a\n let y = e b\n say x; y\n", sayCase{"(i,i) ((i,i),i)", "of i (i,i)"}, sayCase{"(i,i) i", "none"}, sayCase{"i (i,i)", "none"}, sayCase{"i i", "none"})
	kindsLast(t, "e a\n say at.0 a\nf a b\n let x = e a\n let y = e x\n let z = e y\n say z\n", sayCase{"(((i,i),i),i) i", "of i"}, sayCase{"((i,i),i) i", "none"}, sayCase{"(i,i) i", "none"})
	kindsLast(t, "e a\n x = + a 1\n say\nf a b\n let = e a\n say b\n", sayCase{"i (i,i)", "of (i,i)"}, sayCase{"(i,i) i", "none"})
	kindsLast(t, "e a b\n say , a b\nf a b\n let x = e a; b\n let y = e b; x\n say y\n", sayCase{"i i", "of (i,(i,i))"}, sayCase{"i (i,i)", "of ((i,i),(i,(i,i)))"}, sayCase{"i ((i,i),i)", "none"}, sayCase{"(i,i) i", "of (i,((i,i),i))"}, sayCase{"((i,i),i) ((i,i),i)", "none"})
	// Turned about, the same types are others.
	kindsLast(t, "e a b\n say + a at.0 b\nf a b\n let x = e a; b\n let y = e a; b\n say x; y\n", sayCase{"i (i,i)", "of i i"}, sayCase{"(i,i) i", "none"})
	kindsLast(t, "e a b\n say + a at.0 b\nf a b\n let x = e a; b\n let y = e b; a\n say x; y\n", sayCase{"i (i,i)", "none"})
	// Two functions at the same types.
	kindsLast(t, "d a\n say a\ne a\n say , a a\nf a\n let x = d a\n let y = e a\n let z = d a\n say x; y; z\n", sayCase{"i", "of i (i,i) i"}, sayCase{"(i,i)", "of (i,i) ((i,i),(i,i)) (i,i)"})
	kindsLast(t, "d a\n say a\ned a\n say , a a\nd_ a\n let x = ed a\n let y = d a\n say y; x\nf a\n let x y = d_ a\n let z = ed x\n say x; y; z\n", sayCase{"i", "of i (i,i) (i,i)"})
	kindsLast(t, "d a\n say , a a\ndi\n say 1\nf\n let x = d 1\n let y = di\n say x; y\n", sayCase{"", "of (i,i) i"})
	kindsLast(t, "d a\n say , a a\ndi a\n say a\nf\n let x = d , 1 1\n let y = di 1\n let z = d 1\n say x; y; z\n", sayCase{"", "of ((i,i),(i,i)) i (i,i)"})
	// By way of others, which have names of their own.
	kindsLast(t, "d a\n say , a 1\ne a b\n let x = d a\n b = 1\n say x; b\nf a b\n let x y = e a; b\n say a; b; x; y\n", sayCase{"i (i,i)", "of i (i,i) (i,i) i"}, sayCase{"(((i,i),i),i) i", "none"})
	kindsLast(t, "d\n say\ne\n let = d\n say\nf a\n let = e\n let = d\n say a\n", sayCase{"((i,i),i)", "of ((i,i),i)"})
	kindsLast(t, "d\n say , 1 2\ne\n let a = d\n say at.0.0 a\nf\n say 1\n", sayCase{"", "of i"})
	kindsLast(t, "d\n say , 1 2\ne\n let a = d\n say at.0.0 a\nf\n let a = e\n say 1\n", sayCase{"", "none"})
}

func TestTypesOfChoices(t *testing.T) {
	kindsLast(t, "f a b\n if a\n  say b\n else\n  say b\n for x\n say x\n", sayCase{"i i", "of i"}, sayCase{"i (i,i)", "of (i,i)"}, sayCase{"(i,i) i", "none"}, sayCase{"((i,i),i) (i,i)", "none"})
	// Both bodies say the same types, all of them, in order.
	kindsLast(t, "f a b c\n if a\n  say b\n else\n  say c\n for x\n say x\n", sayCase{"i i i", "of i"}, sayCase{"i (i,i) (i,i)", "of (i,i)"}, sayCase{"i i (i,i)", "none"}, sayCase{"i (i,i) i", "none"}, sayCase{"i ((i,i),i) (i,(i,i))", "none"}, sayCase{"i (i,i) ((i,i),i)", "none"}, sayCase{"i ((i,i),(i,i)) ((i,i),i)", "none"}, sayCase{"i ((i,i),i) ((i,i),i)", "of ((i,i),i)"})
	kindsLast(t, "f a b\n if a\n  say a; b\n else\n  say b; a\n for x y\n say x; y\n", sayCase{"i i", "of i i"}, sayCase{"i (i,i)", "none"})
	kindsLast(t, "f a b\n if a\n  say a; b; 1\n else\n  say 2; , 1 1; 3\n for x y z\n say x; y; z\n", sayCase{"i (i,i)", "of i (i,i) i"}, sayCase{"i i", "none"})
	kindsLast(t, "f a b\n if a\n  say 1; 2; b\n else\n  say 1; 2; 3\n for x y z\n say y\n", sayCase{"i i", "of i"}, sayCase{"i (i,i)", "none"})
	// With no Names at all.
	kindsLast(t, "f a b\n if a\n  say\n else\n  say\n for\n say b\n", sayCase{"i (i,i)", "of (i,i)"}, sayCase{"(i,i) i", "none"}, sayCase{"(((i,i),i),i) i", "none"})
	kindsLast(t, "f a b\n if a\n  x = at.0 b\n  say\n else\n  say\n for\n say b\n", sayCase{"i (i,i)", "of (i,i)"}, sayCase{"i i", "none"})
	kindsLast(t, "f a b\n if a\n  say\n else\n  x = at.0 b\n  say\n for\n say b\n", sayCase{"i (i,i)", "of (i,i)"}, sayCase{"i i", "none"})
	kindsLast(t, "f a b\n if a\n  x = 1\n  say\n else\n  x = , 1 1\n  say\n for\n say b\n", sayCase{"i (i,i)", "of (i,i)"})
	// What is bound in Then and Else alone; what was bound ahead is what it was, in Else, and behind.
	kindsLast(t, "f a x\n if a\n  x = , x x\n  a = , a a\n  say x; a\n else\n  y = , x x\n  x = , a a\n  say y; x\n for y z\n say a; x; y; z\n", sayCase{"i i", "of i i (i,i) (i,i)"}, sayCase{"i (i,i)", "of i (i,i) ((i,i),(i,i)) (i,i)"})
	kindsLast(t, "f a\n if a\n  a = , a a\n  say a\n else\n  say a\n for x\n say x\n", sayCase{"i", "none"})
	kindsLast(t, "f a\n if a\n  a = , a a\n  say\n else\n  x = + a 1\n  say\n for\n a = + a 1\n say a\n", sayCase{"i", "of i"})
	kindsLast(t, "f a\n if a\n  say 1\n else\n  say 2\n for a\n say a\n", sayCase{"i", "of i"})
	kindsLast(t, "f a\n if a\n  say , a a\n else\n  say , a 1\n for a\n if at.0 a\n  say a\n else\n  say a\n for b\n say a; b\n", sayCase{"i", "of (i,i) (i,i)"})
	kindsLast(t, "f a\n if a\n  say , a a\n else\n  say , a 1\n for a\n if a\n  say\n else\n  say\n for\n say a\n", sayCase{"i", "none"})
	// Choices in choices, and calls in them.
	kindsLast(t, "f a b c\n if a\n  if a\n   say b\n  else\n   say b\n  for x\n  say x\n else\n  if a\n   say c\n  else\n   say c\n  for x\n  say x\n for x\n say x\n", sayCase{"i i i", "of i"}, sayCase{"i (i,i) (i,i)", "of (i,i)"}, sayCase{"i (i,i) i", "none"})
	kindsLast(t, "f a b\n if a\n  if b\n   say\n  else\n   say\n  for\n  say 1\n else\n  say 2\n for x\n say x\n", sayCase{"i i", "of i"}, sayCase{"i (i,i)", "none"})
	kindsLast(t, "f a b\n if a\n  say 1\n else\n  if b\n   say\n  else\n   say\n  for\n  say 1\n for x\n say x\n", sayCase{"i i", "of i"}, sayCase{"i (i,i)", "none"})
	kindsLast(t, "e a\n say at.0 a\nf a b\n if a\n  let x = e b\n  say x\n else\n  let x = e , b b\n  x = at.0 x\n  say x\n for x\n say x\n", sayCase{"i (i,i)", "of i"}, sayCase{"i ((i,i),i)", "of (i,i)"}, sayCase{"i i", "none"})
	kindsLast(t, "e a b\n if a\n  say a\n else\n  say b\n for x\n say x\nf a b\n let x = e a; b\n let y = e a; a\n say x; y\n", sayCase{"i i", "of i i"}, sayCase{"i (i,i)", "none"}, sayCase{"(i,i) (i,i)", "none"})
}

// What is not given as it is asked for is of no types.
func TestTypesThatAreNotAskedFor(t *testing.T) {
	list := puresFrom("none\n say 1\none a\n say a\ntwo a b\n say b; a\nbad a\n say at.0 + a a\n")
	for _, name := range []string{"", "non", "nonee", "None", "none ", "a", "three", "say", "\x00", strings.Repeat("a", 1<<16)} {
		for n := range 4 {
			mustKind(t, list, name, again(n, numberType), "none")
		}
	}
	want := map[string][]string{"none": {"of i", "none", "none", "none"}, "one": {"none", "of i", "none", "none"}, "two": {"none", "none", "of i i", "none"}, "bad": again(4, "none")}
	for name, words := range want {
		for n, word := range words {
			mustKind(t, list, name, again(n, numberType), word)
		}
		mustKind(t, list, name, again(1<<16, numberType), "none")
	}
	for _, odd := range oddTypes() {
		mustKind(t, list, "none", []impl.Type{odd}, "none")
		mustKind(t, list, "one", []impl.Type{odd}, "none")
		mustKind(t, list, "two", []impl.Type{odd, numberType}, "none")
		mustKind(t, list, "two", []impl.Type{numberType, odd}, "none")
		mustKind(t, list, "two", []impl.Type{odd, odd}, "none")
		// Nobody uses what is of it.
		mustKind(t, puresFrom("f a\n say 1\n"), "f", []impl.Type{odd}, "none")
	}
	for _, kind := range okTypes() {
		mustKind(t, list, "one", []impl.Type{kind}, "of "+typeText(kind, 4))
		for _, other := range okTypes() {
			mustKind(t, list, "two", []impl.Type{kind, other}, "of "+typeText(other, 4)+" "+typeText(kind, 4))
		}
	}
	mustKind(t, nil, "f", nil, "none")
	mustKind(t, nil, "", nil, "none")
	mustKind(t, []impl.Pure{{}}, "", nil, "none")
}

// Functions that are not ok are of no types, also those of them that nothing is wrong with.
func TestTypesOfFunctionsThatAreNotOk(t *testing.T) {
	for _, text := range pureWrong {
		wrong := puresFrom(text)
		for _, list := range [][]impl.Pure{wrong, append(puresFrom("zz a\n say a\n"), wrong...), append(slices.Clone(wrong), puresFrom("zz a\n say a\n")...)} {
			mustKind(t, list, "zz", typesFrom("i"), "none")
			for _, fn := range wrong {
				mustKind(t, list, fn.Name, again(len(fn.Params), numberType), "none")
				mustKind(t, list, fn.Name, again(len(fn.Params), pairType(numberType, numberType)), "none")
			}
		}
	}
	count := kindly{}
	for _, text := range pureSamples {
		list := copyOf(puresFrom(text))
		changesOf(&list, func() {
			for _, fn := range list {
				types := again(min(len(fn.Params), 61), numberType)
				want := kindWords(list, fn.Name, types)
				count[want != "none"]++
				mustKind(t, list, fn.Name, types, want)
			}
		})
	}
	count.enough(t, 1000, 10000)
}

// As much as there may be: Params, terms that are given and said, bindings, bodies and functions.
func TestTypesOfAsMuchAsThereMayBe(t *testing.T) {
	var all []impl.Term
	var types []impl.Type
	for n, name := range numbered(60) {
		all = append(all, nameTerm(name))
		types = append(types, okTypes()[n%26])
	}
	turned := slices.Clone(all)
	slices.Reverse(turned)
	body := saying(turned)
	for range 5 {
		body = saying(all, bindTerm("y", numTerm(1)), bindIf(numbered(60), nameTerm("y"), body, body))
	}
	list := []impl.Pure{{Name: "f0", Params: numbered(60), Body: body}}
	for n := 1; n < 10; n++ {
		list = append(list, impl.Pure{Name: "f" + strconv.Itoa(n), Params: numbered(60), Body: saying(turned, bindCall(numbered(60), "f"+strconv.Itoa(n-1), turned...))})
	}
	back := slices.Clone(types)
	slices.Reverse(back)
	mustKind(t, list, "f9", types, ofWords(back, true))
	mustKind(t, list, "f9", append(types, numberType), "none")
	// 10 functions, each of which calls the one ahead 400 times: twice as many calls at each more would not end, if each was gone through anew.
	chain := puresFrom("c0 a\n say a\n")
	for n := 1; n < 10; n++ {
		chain = append(chain, pure("c"+strconv.Itoa(n), "a", saying(terms(nameTerm("a")), again(400, bindCall([]string{"a"}, "c"+strconv.Itoa(n-1), nameTerm("a")))...)))
	}
	for _, kind := range okTypes() {
		mustKind(t, chain, "c9", []impl.Type{kind}, "of "+typeText(kind, 4))
	}
	chain[0] = puresFrom("c0 a\n say + a 1\n")[0]
	mustKind(t, chain, "c9", typesFrom("i"), "of i")
	mustKind(t, chain, "c9", typesFrom("(i,i)"), "none")
}

// What any functions are of is what the rules say that are told in another way, at types that they are thought to take, and at others.
func TestTypesOfAnyFunctions(t *testing.T) {
	t.Parallel()
	count := kindly{}
	eachKind(t, 3000, func(list []impl.Pure, at int, types []impl.Type) {
		want := kindWords(list, list[at].Name, types)
		count[want != "none"]++
		mustKind(t, list, list[at].Name, types, want)
	})
	count.enough(t, 10000, 3000)
}

// At each row of types that are not deep, too.
func TestTypesOfAnyFunctionsAtAnyTypes(t *testing.T) {
	t.Parallel()
	r := rand.New(rand.NewSource(14))
	count := kindly{}
	for range 300 {
		list, _ := makePures(r)
		for _, fn := range list {
			for _, types := range rowsOfTypes(len(fn.Params)) {
				want := kindWords(list, fn.Name, types)
				count[want != "none"]++
				mustKind(t, list, fn.Name, types, want)
			}
		}
	}
	count.enough(t, 1000, 3000)
}

// rowsOfTypes is all rows of so many types that are at most three deep.
func rowsOfTypes(n int) [][]impl.Type {
	if n == 0 {
		return [][]impl.Type{nil}
	}
	var list [][]impl.Type
	for _, row := range rowsOfTypes(n - 1) {
		for _, kind := range typesUpTo(3) {
			list = append(list, append(slices.Clone(row), kind))
		}
	}
	return list
}

// Terms of any kind are of what the rules say that are told in another way.
func TestTypesOfAnyTerms(t *testing.T) {
	count := kindly{}
	eachTyped(20000, func(names []string, types []impl.Type, x impl.Term) {
		want := termKindWords(names, types, x)
		count[want != "none"]++
		mustKindTerm(t, names, types, x, want)
	})
	count.enough(t, 20000, 1000)
}
