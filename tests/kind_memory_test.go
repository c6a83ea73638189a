package tests

import (
	"reflect"
	"slices"
	"strings"
	"testing"

	"loop.example/handfast/impl"
)

// Nothing is written into functions, terms, names or types, nor behind the ends of their lists; what lies there is not told. What is of no type leaves nothing changed either.
func TestNothingIsChangedByTypes(t *testing.T) {
	t.Parallel()
	eachKind(t, 200, func(list []impl.Pure, at int, types []impl.Type) {
		name := list[at].Name
		fns, given := roomy(list), roomy(types)
		mustKind(t, fns, name, given, kindWords(list, name, types))
		impl.KindOf(fns, name, given[:len(given)/2])
		impl.KindOf(fns, "zz", given)
		if !wholeThing(fns, roomy(list)) || !wholeThing(given, roomy(types)) {
			t.Fatalf("%s with %v changed what it was given, in\n%s", name, textsOf(types), puresText(list))
		}
	})
	eachTyped(1500, func(names []string, types []impl.Type, x impl.Term) {
		row, given, term := roomy(names), roomy(types), roomy(x)
		mustKindTerm(t, row, given, term, termKindWords(names, types, x))
		impl.KindTerm(row[:len(row)-1], given, term)
		impl.KindTerm(row[:len(row)-1], given[:len(row)-1], term)
		if !wholeThing(row, roomy(names)) || !wholeThing(given, roomy(types)) || !wholeThing(term, roomy(x)) {
			t.Fatalf("changed: %v %v %v", names, textsOf(types), x)
		}
	})
	for _, text := range pureWrong {
		fns, given := roomy(puresFrom(text)), roomy(typesFrom("i (i,i)"))
		for n := range 3 {
			impl.KindOf(fns, fns[0].Name, given[:n])
		}
		if !wholeThing(fns, roomy(puresFrom(text))) || !wholeThing(given, roomy(typesFrom("i (i,i)"))) {
			t.Fatalf("changed: %q", text)
		}
	}
	for n, odd := range oddTypes()[:8] {
		given, one := roomy([]impl.Type{numberType, odd}), roomy([]impl.Type{odd})
		impl.KindOf(puresFrom("f a b\n say b\n"), "f", given)
		impl.KindTerm([]string{"a", "b"}, given, nameTerm("b"))
		impl.KindTerm([]string{"a"}, one, atTerm(nameTerm("a"), 0))
		if !wholeThing(given, roomy([]impl.Type{numberType, odd})) || !wholeThing(one, roomy([]impl.Type{odd})) {
			t.Fatalf("changed: a type that is not ok, the %dth", n)
		}
	}
}

// What is told lies in memory of its own: no two lists of one answer share any, nor do two answers.
func TestTypesShareNothing(t *testing.T) {
	t.Parallel()
	eachKind(t, 200, func(list []impl.Pure, at int, types []impl.Type) {
		fns, given := roomy(list), roomy(types)
		var answers [][]impl.Type
		for range 2 {
			says, _ := impl.KindOf(fns, list[at].Name, given)
			answers = append(answers, says)
		}
		mine := pieces(reflect.ValueOf(answers))
		if overlap(mine) || overlapWith(mine, append(pieces(reflect.ValueOf(fns)), pieces(reflect.ValueOf(given))...)) {
			t.Fatalf("types of %s share memory, in\n%s", list[at].Name, puresText(list))
		}
	})
	eachTyped(1500, func(names []string, types []impl.Type, x impl.Term) {
		row, given, term := roomy(names), roomy(types), roomy(x)
		var answers []impl.Type
		for range 2 {
			kind, _ := impl.KindTerm(row, given, term)
			answers = append(answers, kind)
		}
		mine := pieces(reflect.ValueOf(answers))
		others := append(append(pieces(reflect.ValueOf(row)), pieces(reflect.ValueOf(given))...), pieces(reflect.ValueOf(term))...)
		if overlap(mine) || overlapWith(mine, others) {
			t.Fatalf("a type shares memory: %v %v %v", names, textsOf(types), x)
		}
	})
}

// One type that is told several times, as it is, as a part, of two names, and by way of calls and choices, is several lists.
func TestOneTypeToldSeveralTimes(t *testing.T) {
	list := puresFrom("g a\n b = a\n say a; b; at a; at.0 a; put.0 a at.0 a; put a a\nf a b\n let u v w x y z = g a\n let u v w x y z = g a\n if 1\n  say a; u; b\n else\n  say b; a; b\n for p q r\n s = , at.0 a at.0 a\n say a; b; u; v; w; x; y; z; p; q; r; s; , at.0 b at.0 a; a\n")
	two := pairType(numberType, numberType)
	four := pairType(two, two)
	types := []impl.Type{four, four}
	says, ok := impl.KindOf(list, "f", types)
	want := "of" + strings.Repeat(" ((i,i),(i,i))", 5) + " (i,i)" + strings.Repeat(" ((i,i),(i,i))", 8)
	if got := ofWords(says, ok); got != want {
		t.Fatal(got)
	}
	mine := pieces(reflect.ValueOf(says))
	if overlap(mine) || overlapWith(mine, pieces(reflect.ValueOf(types))) {
		t.Error("memory is shared")
	}
	for _, x := range terms(nameTerm("a"), twoTerm(6, nameTerm("a"), nameTerm("a")), twoTerm(6, nameTerm("a"), nameTerm("b")), putTerm(nameTerm("a"), atTerm(nameTerm("b"), 0), 1), atTerm(nameTerm("b"))) {
		kind, ok := impl.KindTerm([]string{"a", "b"}, types, x)
		mine := pieces(reflect.ValueOf(kind))
		if !ok || overlap(mine) || overlapWith(mine, pieces(reflect.ValueOf(types))) {
			t.Error("memory is shared, or there is no type:", ok, x)
		}
	}
	if typeText(four, 4) != "((i,i),(i,i))" {
		t.Error("the type is changed:", typeText(four, 4))
	}
	// A number with an empty list that has spare room.
	spare := impl.Type{Kids: make([]impl.Type, 0, 3)}
	says, ok = impl.KindOf(puresFrom("f a\n say a; , a a; put.0 , 1 2 a\n"), "f", []impl.Type{spare})
	if mine := pieces(reflect.ValueOf(says)); !ok || overlap(mine) || overlapWith(mine, pieces(reflect.ValueOf([]impl.Type{spare}))) {
		t.Error("spare room is shared")
	}
	kind, ok := impl.KindTerm([]string{"a"}, []impl.Type{spare}, nameTerm("a"))
	if mine := pieces(reflect.ValueOf(kind)); !ok || overlapWith(mine, pieces(reflect.ValueOf([]impl.Type{spare}))) {
		t.Error("spare room is shared")
	}
}

// What is written into an answer, or into what was given, is not seen on the other side, nor by a later call.
func TestNothingIsKeptOfTypes(t *testing.T) {
	text := "e a\n say , a 1\nf a b\n let x = e a\n say x; a\n"
	list := puresFrom(text)
	two := pairType(numberType, numberType)
	types := []impl.Type{copyOf(two), numberType}
	says, ok := impl.KindOf(list, "f", types)
	kind, _ := impl.KindTerm([]string{"a"}, types[:1], nameTerm("a"))
	types[0].Kids[0], types[1] = copyOf(two), copyOf(two)
	if got := ofWords(says, ok); got != "of ((i,i),i) (i,i)" || typeText(kind, 4) != "(i,i)" {
		t.Error(got, kind)
	}
	says[0].Kids[0].Kids[0], says[1].Kids[1], kind.Kids[0] = copyOf(two), copyOf(two), copyOf(two)
	_ = append(says, two)
	if typeText(types[0], 4) != "((i,i),i)" || typeText(types[1], 4) != "(i,i)" || impl.PureText(list) != text {
		t.Error(textsOf(types), impl.PureText(list))
	}
	mustKind(t, list, "f", typesFrom("(i,i) i"), "of ((i,i),i) (i,i)")
	list[0].Body.Says[0] = numTerm(9)
	mustKind(t, list, "f", typesFrom("(i,i) i"), "of i (i,i)")
	mustKind(t, list, "f", typesFrom("(((i,i),i),i) i"), "of i (((i,i),i),i)")
	mustKind(t, list, "f", typesFrom("(i,i)"), "none")
	list[0].Body.Says[0] = termsFrom([]string{"+", "a", "1"})[0]
	mustKind(t, list, "f", typesFrom("(i,i) i"), "none")
	mustKind(t, list, "f", typesFrom("i i"), "of i i")
}

// Functions, bodies and terms that stand twice in one memory are each for themselves.
func TestTypesOfFunctionsThatShareMemory(t *testing.T) {
	words := []string{"a", "b", "c"}
	path := []int{0, 1, 0}
	at := impl.Term{Kind: 7, Path: path[:1], Kids: terms(nameTerm("a"))}
	put := impl.Term{Kind: 8, Path: path[:2], Kids: terms(nameTerm("a"), at)}
	inner := impl.Body{Says: terms(at, put, at)}
	choice := impl.Bind{Kind: 3, Names: words, Terms: terms(numTerm(1)), Then: inner, Else: inner}
	body := impl.Body{Binds: []impl.Bind{choice}, Says: terms(nameTerm("a"), nameTerm("b"), nameTerm("c"))}
	list := []impl.Pure{{Name: "f", Params: words[:1], Body: body}, {Name: "g", Params: words[:1], Body: body}}
	mustKind(t, list, "g", typesFrom("(i,i)"), "none")
	mustKind(t, list, "f", typesFrom("((i,i),i)"), "none")
	list[0].Body.Binds[0].Then, list[0].Body.Binds[0].Else = saying(again(3, at)), saying(again(3, at))
	mustKind(t, list, "g", typesFrom("((i,i),i)"), "of (i,i) (i,i) (i,i)")
	if !slices.Equal(words, []string{"a", "b", "c"}) || !slices.Equal(path, []int{0, 1, 0}) {
		t.Error("changed:", words, path)
	}
}

// Nothing panics, and all calls end, whatever they are given: such are of no types.
func TestNoPanicAtWrongTypes(t *testing.T) {
	long := make([]impl.Type, 1<<16)
	rows := append([][]impl.Type{nil, {}, typesFrom("i"), typesFrom("(i,i) i"), long}, oneEach(oddTypes())...)
	for _, list := range endlessPures() {
		for _, types := range rows {
			for _, name := range []string{"f", "g", "", "zz"} {
				if says, ok := impl.KindOf(list, name, types); ok || len(says) != 0 {
					t.Error(name, "is of types")
				}
			}
		}
	}
	list := puresFrom("f a b\n x = at.0 a\n say + x b\n")
	odd := append(oddTypes(), typesFrom("i (i,i) ((i,i),i)")...)
	for _, a := range odd {
		for _, b := range odd {
			for _, types := range [][]impl.Type{nil, {a}, {a, b}, {a, b, a}} {
				mustKind(t, list, "f", types, kindWords(list, "f", types))
			}
		}
	}
	names := make([]string, 1<<16)
	for _, x := range endlessTerms() {
		for _, types := range rows {
			for _, row := range [][]string{nil, names[:len(types)], numbered(len(types)), {"a"}, {"a", "b"}} {
				if kind, ok := impl.KindTerm(row, types, x); ok || len(kind.Kids) != 0 {
					t.Error("a term is of a type:", sketch(x))
				}
			}
		}
	}
}

// oneEach is a row of each type.
func oneEach(list []impl.Type) [][]impl.Type {
	var rows [][]impl.Type
	for _, kind := range list {
		rows = append(rows, []impl.Type{kind})
	}
	return rows
}

// endlessTerms is terms whose Kids hold themselves, or that are far too much.
func endlessTerms() []impl.Term {
	kids := make([]impl.Term, 2)
	single := make([]impl.Term, 1)
	for n := range kids {
		kids[n] = impl.Term{Kind: 3 + n, Kids: kids}
	}
	single[0] = impl.Term{Kind: 7, Kids: single}
	return terms(kids[0], kids[1], single[0], impl.Term{}, impl.Term{Kids: kids}, impl.Term{Kind: 1, Kids: kids}, impl.Term{Kind: 8, Kids: kids}, impl.Term{Kind: 9, Kids: single}, impl.Term{Kind: 6, Kids: make([]impl.Term, 1<<16)}, atTerm(numTerm(1), make([]int, 1<<20)...), nameTerm(strings.Repeat("a", 1<<20)), deepTerm(100000, 6, 1), deepTerm(100000, 7, 0))
}
