package tests

import (
	"reflect"
	"slices"
	"strconv"
	"strings"
	"testing"

	"loop.example/handfast/impl"
)

// Nothing is written into functions or values, nor behind the ends of their lists; what lies there is not told. What fails, or is bad, leaves nothing changed either.
func TestFunctionsAreNotChanged(t *testing.T) {
	t.Parallel()
	eachPure(t, 300, func(list []impl.Pure, at int, args []impl.Val) {
		fns, given := roomy(list), roomy(args)
		mustSay(t, fns, list[at].Name, given, pureWords(list, list[at].Name, args))
		impl.PureRun(fns, list[at].Name, given[:len(given)/2])
		impl.PureRun(fns, "zz", given)
		if !impl.PureOk(fns) || impl.PureText(fns) != puresText(list) {
			t.Fatalf("what lies behind lists counts, in\n%s", puresText(list))
		}
		if !wholeThing(fns, roomy(list)) || !wholeThing(given, roomy(args)) {
			t.Fatalf("%s changed what it was given, in\n%s", list[at].Name, puresText(list))
		}
	})
	for _, text := range pureWrong {
		fns, given := roomy(puresFrom(text)), roomy(valsFrom("1 (2,3)"))
		impl.PureOk(fns)
		impl.PureText(fns)
		for n := range 3 {
			impl.PureRun(fns, fns[0].Name, given[:n])
		}
		if !wholeThing(fns, roomy(puresFrom(text))) || !wholeThing(given, roomy(valsFrom("1 (2,3)"))) {
			t.Fatalf("changed: %q", text)
		}
	}
	turn := 0
	for _, text := range pureSamples {
		list := copyOf(puresFrom(text))
		changesOf(&list, func() {
			if turn++; turn%11 != 0 {
				return
			}
			fns := roomy(list)
			impl.PureOk(fns)
			impl.PureText(fns)
			for _, fn := range fns {
				impl.PureRun(fns, fn.Name, again(min(len(fn.Params), 60), number(3)))
			}
			if !wholeThing(fns, roomy(list)) {
				t.Fatalf("changed: %+v", list)
			}
		})
	}
}

// What is said lies in memory of its own: no two lists of one answer share any, nor do two answers; nor does a text.
func TestWhatIsSaidSharesNothing(t *testing.T) {
	t.Parallel()
	eachPure(t, 300, func(list []impl.Pure, at int, args []impl.Val) {
		fns, given := roomy(list), roomy(args)
		var answers [][]impl.Val
		for range 2 {
			vals, _ := impl.PureRun(fns, list[at].Name, given)
			answers = append(answers, vals)
		}
		mine := pieces(reflect.ValueOf(answers))
		others := append(pieces(reflect.ValueOf(fns)), pieces(reflect.ValueOf(given))...)
		if overlap(mine) || overlapWith(mine, others) {
			t.Fatalf("what %s says shares memory, in\n%s", list[at].Name, puresText(list))
		}
		if overlapWith(pieceOfText(impl.PureText(fns)), others) {
			t.Fatalf("the text shares memory, of\n%s", puresText(list))
		}
	})
}

// One value that is said several times, as it is, as a part, and by way of calls and choices, is several lists.
func TestOneValueSaidSeveralTimes(t *testing.T) {
	list := puresFrom("g a\n b = a\n say a; b; at a; at.0 a; put.0 a at.0 a; put a a\nf a b\n let u v w x y z = g a\n if 1\n  say a; u; b\n else\n  say 1; 2; 3\n for p q r\n s = , at.0 a at.0 a\n say a; b; u; v; w; x; y; z; p; q; r; s; , at.0 b at.0 a; a\n")
	one := pairVal(number(1), number(2))
	both := pairVal(one, one)
	args := []impl.Val{both, both}
	vals, code := impl.PureRun(list, "f", args)
	want := "says" + strings.Repeat(" ((1,2),(1,2))", 5) + " (1,2)" + strings.Repeat(" ((1,2),(1,2))", 8)
	if got := inWords(vals, code); got != want {
		t.Fatal(got)
	}
	mine := pieces(reflect.ValueOf(vals))
	if overlap(mine) || overlapWith(mine, pieces(reflect.ValueOf(args))) {
		t.Error("memory is shared")
	}
	if valText(both) != "((1,2),(1,2))" {
		t.Error("the value is changed:", valText(both))
	}
	// A number with an empty list that has spare room.
	spare := impl.Val{Num: 5, Kids: make([]impl.Val, 0, 3)}
	vals, _ = impl.PureRun(puresFrom("f a\n say a; , a a; put.0 , 1 2 a\n"), "f", []impl.Val{spare})
	if mine := pieces(reflect.ValueOf(vals)); overlap(mine) || overlapWith(mine, pieces(reflect.ValueOf([]impl.Val{spare}))) {
		t.Error("spare room is shared")
	}
}

// Functions, bodies and terms that stand twice in one memory are each for themselves.
func TestFunctionsThatShareMemory(t *testing.T) {
	words := []string{"a", "b", "c"}
	path := []int{0, 1, 0}
	at := impl.Term{Kind: 7, Path: path[:1], Kids: terms(nameTerm("a"))}
	put := impl.Term{Kind: 8, Path: path[:2], Kids: terms(nameTerm("a"), at)}
	both := terms(at, put, at)
	inner := impl.Body{Says: both}
	choice := impl.Bind{Kind: 3, Names: words, Terms: terms(numTerm(1)), Then: inner, Else: inner}
	body := impl.Body{Binds: []impl.Bind{choice}, Says: terms(nameTerm("a"), nameTerm("b"), nameTerm("c"))}
	list := []impl.Pure{{Name: "f", Params: words[:1], Body: body}, {Name: "g", Params: words[:1], Body: body}}
	pureOk(t, "shared", list)
	one := " if 1\n  say at.0 a; put.0.1 a at.0 a; at.0 a\n else\n  say at.0 a; put.0.1 a at.0 a; at.0 a\n for a b c\n say a; b; c\n"
	if got := impl.PureText(list); got != "f a\n"+one+"g a\n"+one {
		t.Errorf("%q", got)
	}
	if !slices.Equal(words, []string{"a", "b", "c"}) || !slices.Equal(path, []int{0, 1, 0}) {
		t.Error("changed:", words, path)
	}
	mustSay(t, list, "g", valsFrom("((1,(2,3)),4)"), "fails")
	list[0].Body.Binds[0].Then = saying(again(3, nameTerm("a")))
	mustSay(t, list, "g", valsFrom("((1,(2,3)),4)"), "says"+strings.Repeat(" ((1,(2,3)),4)", 3))
}

// What is written into an answer, or into what was given, is not seen on the other side, nor by a later call.
func TestNothingIsKeptOfFunctions(t *testing.T) {
	text := "f a b\n x = put.0 a b\n say x; a\n"
	list := puresFrom(text)
	args := valsFrom("(1,2) 3")
	vals, code := impl.PureRun(list, "f", args)
	before := impl.PureText(list)
	args[0].Kids[0].Num, args[1].Num = 50, 60
	if got := inWords(vals, code); got != "says (3,2) (1,2)" {
		t.Error(got)
	}
	vals[0].Kids[0].Num, vals[1].Kids[1].Num = 70, 80
	_ = append(vals, number(1))
	if valText(args[0]) != "(50,2)" || impl.PureText(list) != text {
		t.Error(args, impl.PureText(list))
	}
	list[0].Body.Says[1] = numTerm(9)
	if before != text {
		t.Error(before)
	}
	mustSay(t, list, "f", valsFrom("(1,2) 3"), "says (3,2) 9")
	mustSay(t, list, "f", valsFrom("1 3"), "fails")
	mustSay(t, list, "f", valsFrom("1"), "bad")
	mustSay(t, list, "f", valsFrom("(1,2) 3"), "says (3,2) 9")
}

// endlessPures is functions whose lists hold themselves, or are far too long.
func endlessPures() [][]impl.Pure {
	kids := make([]impl.Term, 2)
	single := make([]impl.Term, 1)
	for n := range kids {
		kids[n] = impl.Term{Kind: 3 + n, Kids: kids}
	}
	single[0] = impl.Term{Kind: 7, Kids: single}
	var list [][]impl.Pure
	for _, x := range terms(kids[0], kids[1], single[0], impl.Term{Kids: kids}, impl.Term{Kind: 1, Kids: kids}, impl.Term{Kind: 9, Kids: single}, impl.Term{Kind: 6, Kids: make([]impl.Term, 1<<16)}, atTerm(nameTerm("a"), make([]int, 1<<20)...), nameTerm(strings.Repeat("a", 1<<20)), deepTerm(100000, 6, 1)) {
		for _, fns := range withTerm(x) {
			list = append(list, fns)
		}
	}
	row := make([]impl.Bind, 400)
	for n := range row {
		row[n] = bindIf(nil, numTerm(1), saying(nil, row...), saying(nil, row...))
	}
	alone := make([]impl.Bind, 1)
	alone[0] = bindIf(nil, numTerm(1), impl.Body{}, impl.Body{Binds: alone})
	nameless := make([]impl.Bind, 1000)
	for n := range nameless {
		nameless[n] = impl.Bind{Then: impl.Body{Binds: nameless}, Else: impl.Body{Binds: nameless}, Terms: kids}
	}
	names := make([]string, 1<<16)
	many := again(1<<16, numTerm(1))
	last := append(again(399, bindTerm("x", numTerm(1))), bindIf(nil, numTerm(1), impl.Body{Binds: nameless}, impl.Body{}))
	for _, binds := range [][]impl.Bind{row, alone, nameless, nameless[:400], last, make([]impl.Bind, 1<<16), {bindCall(names, "f", many...)}, {{Kind: 1, Names: names[:1], Terms: many}}, {bindIf(names, numTerm(1), saying(many), saying(many))}} {
		list = append(list, []impl.Pure{pure("f", "", impl.Body{}), pure("g", "", impl.Body{Binds: binds})})
	}
	return append(list, make([]impl.Pure, 1<<16), make([]impl.Pure, 10), []impl.Pure{{Name: "f", Params: names}}, []impl.Pure{pure("f", "", saying(many))}, []impl.Pure{{}})
}

// Nothing panics, and all calls end, whatever they are given.
func TestNoPanicAtWrongFunctions(t *testing.T) {
	long := make([]impl.Val, 1<<16)
	lists := [][]impl.Val{nil, {}, valsFrom("1"), valsFrom("(1,2) 3"), long, {endlessVal()}, {deepVal(100000)}}
	for n, list := range endlessPures() {
		if impl.PureOk(list) || impl.PureText(list) != "" {
			t.Errorf("functions %d are ok", n)
		}
		for _, args := range lists {
			for _, name := range []string{"f", "g", "", "zz"} {
				if got := inWords(impl.PureRun(list, name, args)); got != "bad" {
					t.Errorf("functions %d: %s %s", n, name, got)
				}
			}
		}
	}
	list := puresFrom("f a b\n x = at.0 a\n say + x b\n")
	odd := append(oddVals(), valsFrom("1 (2,3) ((4,5),6)")...)
	for _, a := range odd {
		for _, b := range odd {
			for _, args := range [][]impl.Val{nil, {a}, {a, b}, {a, b, a}} {
				want := "bad"
				if len(args) == 2 && isOfSome(a, 4) && isOfSome(b, 4) {
					want = pureWords(list, "f", args)
				}
				mustSay(t, list, "f", args, want)
			}
		}
	}
}

// As much as there may be: Params, terms that are given and said, bindings, bodies and functions.
func TestPuresOfAsMuchAsThereMayBe(t *testing.T) {
	var all []impl.Term
	var args []impl.Val
	for n, name := range numbered(60) {
		all = append(all, nameTerm(name))
		args = append(args, number(n))
	}
	turned := slices.Clone(all)
	slices.Reverse(turned)
	body := saying(turned, bindTerm("x", twoTerm(6, all[59], deepSum(7))))
	for range 5 {
		body = saying(all, bindTerm("y", numTerm(1)), bindIf(numbered(60), nameTerm("y"), body, saying(again(60, numTerm(0)))))
	}
	list := []impl.Pure{{Name: "f0", Params: numbered(60), Body: body}}
	for n := 1; n < 10; n++ {
		list = append(list, impl.Pure{Name: "f" + strconv.Itoa(n), Params: numbered(60), Body: saying(all, bindCall(numbered(60), "f"+strconv.Itoa(n-1), all...))})
	}
	slices.Reverse(args)
	want := slices.Clone(args)
	slices.Reverse(want)
	pureOk(t, "all", list)
	mustSay(t, list, "f9", args, inWords(want, 0))
	// 400 bindings, each of the one ahead, and who calls that again and again.
	add := pure("add", "a", saying(terms(nameTerm("a")), again(400, bindTerm("a", twoTerm(3, nameTerm("a"), numTerm(1))))...))
	by := pure("by", "a", saying(terms(nameTerm("a")), again(24, bindCall([]string{"a"}, "add", nameTerm("a")))...))
	mustSay(t, []impl.Pure{add, by}, "add", valsFrom("9599"), "says 9999")
	mustSay(t, []impl.Pure{add, by}, "add", valsFrom("9600"), "fails")
	mustSay(t, []impl.Pure{add, by}, "by", valsFrom("399"), "says 9999")
	mustSay(t, []impl.Pure{add, by}, "by", valsFrom("400"), "fails")
	// 10 functions, each of which calls the one ahead twice.
	chain := []impl.Pure{pure("c0", "a", saying(terms(twoTerm(3, nameTerm("a"), numTerm(1)))))}
	for n := 1; n < 10; n++ {
		chain = append(chain, pure("c"+strconv.Itoa(n), "a", saying(terms(nameTerm("a")), again(2, bindCall([]string{"a"}, "c"+strconv.Itoa(n-1), nameTerm("a")))...)))
	}
	mustSay(t, chain, "c9", valsFrom("3"), "says 515")
	mustSay(t, chain, "c9", valsFrom("9488"), "fails")
}

// deepSum is a sum that is so deep on both sides, of ones.
func deepSum(deep int) impl.Term {
	if deep == 1 {
		return numTerm(1)
	}
	return twoTerm(3, deepSum(deep-1), deepSum(deep-1))
}
