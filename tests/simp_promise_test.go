package tests

import (
	"math/rand"
	"slices"
	"testing"

	"loop.example/handfast/impl"
)

// inWays is functions made simpler, tidied, and both, in either order.
func inWays(list []impl.Pure) [][]impl.Pure {
	tidied, simpler := impl.TidyOf(list), impl.SimpOf(list)
	return [][]impl.Pure{tidied, simpler, impl.SimpOf(tidied), impl.TidyOf(simpler)}
}

// eachFoldedKind tells of each function of functions that are ok, and of types that it may be given.
func eachFoldedKind(t *testing.T, n int, tell func(list []impl.Pure, at int, types []impl.Type)) {
	t.Helper()
	r := rand.New(rand.NewSource(int64(n)))
	eachKind(t, n, tell)
	eachFolded(n, func(list []impl.Pure, at int, args []impl.Val) {
		tell(list, at, likelyTypes(r, typesOfVals(args)))
	})
}

// P91: tidied functions, and such made simpler, are of the same types; what is only tidied is of none where it was of none, too.
func TestP91TheSameTypes(t *testing.T) {
	t.Parallel()
	count := kindly{}
	simpler := 0
	eachFoldedKind(t, 1500, func(list []impl.Pure, at int, types []impl.Type) {
		name := list[at].Name
		want := ofWords(impl.KindOf(list, name, types))
		count[want != "none"]++
		mustKind(t, impl.TidyOf(list), name, types, want)
		if want == "none" {
			return
		}
		for _, fns := range inWays(list) {
			mustKind(t, fns, name, types, want)
		}
		simpler += impl.SimpSize(list) - impl.SimpSize(impl.SimpOf(list))
	})
	count.enough(t, 5000, 2000)
	if simpler < 20000 {
		t.Error("the test made too little that may be made simpler:", simpler)
	}
	for _, p := range someProgs(t, 200) {
		list := mustTold(t, p)
		for _, fns := range inWays(list) {
			for _, fn := range p.Fns {
				mustKind(t, fns, fn.Name, paramTypes(fn), ofWords(saidTypes(fn), true))
				mustKind(t, fns, fn.Name, append(paramTypes(fn), numberType), "none")
			}
		}
	}
}

// P92: tidied, and made simpler, what comes back is the same, whatever is written through.
func TestP92WhatComesBackIsTheSame(t *testing.T) {
	t.Parallel()
	count := counter{}
	back := func(p impl.Prog, list []impl.Pure, at int, args []impl.Val, through []impl.Val) {
		fn := p.Fns[at]
		if !fn.Lent {
			return
		}
		_, want := toldWords(fn, count.run(t, p, at, args, through))
		for _, fns := range inWays(list) {
			mustSay(t, fns, fn.Name+"_", append(slices.Clone(args), through...), want)
		}
	}
	eachTold(t, 1200, back)
	count.enough(t, 1500, 100)
	r := rand.New(rand.NewSource(92))
	for _, p := range fullProgs(10) {
		list := mustTold(t, p)
		for at, fn := range p.Fns {
			for range 5 {
				args, through := asked(r, fn)
				back(p, list, at, args, through)
			}
		}
	}
}

// theseSay runs a function that only says a term, by names that stand for values.
func theseSay(names []string, args []impl.Val, x impl.Term) string {
	return inWords(impl.PureRun([]impl.Pure{{Name: "f", Params: names, Body: saying(terms(x))}}, "f", args))
}

// P93: a simpler term says the same, if the term does not fail.
func TestP93ASimplerTermSaysTheSame(t *testing.T) {
	t.Parallel()
	r := rand.New(rand.NewSource(93))
	count := map[string]int{}
	eachFoldedTerm(15000, func(names []string, types []impl.Type, x impl.Term) {
		simple := impl.SimpTerm(x)
		for range 3 {
			args := anyVals(r, likelyTypes(r, types))
			was, is := theseSay(names, args, x), theseSay(names, args, simple)
			switch {
			case was == "fails":
				count[was]++
			case was != is:
				t.Fatalf("by %v of %v it %s, not %s, made simpler as\n%s\nof\n%s", names, args, is, was, termWords(simple), termWords(x))
			case sameThing(simple, x):
				count["stays"]++
			default:
				count["says"]++
			}
		}
	})
	if count["says"] < 10000 || count["stays"] < 10000 || count["fails"] < 1000 {
		t.Error("the test made too few of some kind:", count)
	}
}

// P93, of terms of all sorts, by all values that are small: most of them fail.
func TestP93AnyTerms(t *testing.T) {
	t.Parallel()
	vals := valsFrom("0 5 (1,2) ((1,2),3) (4,(5,6)) (((1,2),3),4)")
	said := 0
	for _, x := range append(anyTerms(8000), termsUpTo(3)...) {
		simple := impl.SimpTerm(x)
		if sameThing(simple, x) {
			continue
		}
		for n, v := range vals {
			args := []impl.Val{v, vals[len(vals)-1-n]}
			was := theseSay([]string{"a", "b"}, args, x)
			if was == "fails" {
				continue
			}
			said++
			if is := theseSay([]string{"a", "b"}, args, simple); is != was {
				t.Fatalf("by %v it %s, not %s, made simpler as\n%s\nof\n%s", args, is, was, termWords(simple), termWords(x))
			}
		}
	}
	if said < 5000 {
		t.Error("the test made too few that do not fail:", said)
	}
}

// P94: a simpler term is of the same type.
func TestP94ASimplerTermIsOfTheSameType(t *testing.T) {
	t.Parallel()
	r := rand.New(rand.NewSource(94))
	count := kindly{}
	tell := func(names []string, types []impl.Type, x impl.Term) {
		want := oneOfWords(impl.KindTerm(names, types, x))
		if simple := impl.SimpTerm(x); want != "none" {
			mustKindTerm(t, names, types, simple, want)
			count[!sameThing(simple, x)]++
		}
	}
	eachFoldedTerm(20000, func(names []string, types []impl.Type, x impl.Term) {
		tell(names, types, x)
		tell(names, likelyTypes(r, types), x)
	})
	for _, x := range append(anyTerms(5000), termsUpTo(3)...) {
		for _, kind := range typesUpTo(3) {
			tell([]string{"a", "b"}, []impl.Type{kind, numberType}, x)
		}
	}
	count.enough(t, 15000, 15000)
}

// P95: made simpler twice is made simpler once, also where a path would be too long.
func TestP95MadeSimplerTwice(t *testing.T) {
	t.Parallel()
	count := map[bool]int{}
	twice := func(x impl.Term) {
		once := impl.SimpTerm(x)
		if got := impl.SimpTerm(once); !sameThing(got, once) {
			t.Fatalf("made simpler twice it is\n%s\nnot\n%s\nof\n%s", termWords(got), termWords(once), termWords(x))
		}
		count[sameThing(once, x)]++
	}
	for _, x := range anyTerms(60000) {
		twice(x)
	}
	eachFoldedTerm(10000, func(names []string, types []impl.Type, x impl.Term) { twice(x) })
	if count[true] < 20000 || count[false] < 20000 {
		t.Error("the test made too few of some kind:", count)
	}
	for _, list := range simpLists(t, 200) {
		once := impl.SimpOf(list)
		if got := impl.SimpOf(once); !sameThing(got, once) {
			t.Fatalf("made simpler twice it is\n%snot\n%s", impl.PureText(got), impl.PureText(once))
		}
	}
}

// termSize is how many terms one is, those in it counted.
func termSize(x impl.Term) int {
	return len(laidTerm(stands{x, 1, nil, nil}))
}

// P96: a simpler term is not larger; nor are functions.
func TestP96NothingIsLarger(t *testing.T) {
	t.Parallel()
	for _, x := range anyTerms(60000) {
		simple := impl.SimpTerm(x)
		was, is := termSize(x), termSize(simple)
		if is > was || is == was && !sameThing(simple, x) {
			t.Fatalf("it is of %d terms, not %d, made simpler as\n%s\nof\n%s", is, was, termWords(simple), termWords(x))
		}
	}
	smaller := 0
	for _, list := range simpLists(t, 200) {
		simpler := impl.SimpOf(list)
		was, is := impl.SimpSize(list), impl.SimpSize(simpler)
		if is > was || is == was && !sameThing(list, simpler) {
			t.Fatalf("there are %d terms, not %d, made simpler as\n%s", is, was, puresText(simpler))
		}
		smaller += was - is
	}
	if smaller < 10000 {
		t.Error("the test made too little that may be made simpler:", smaller)
	}
}

// namesOf is how often each name stands in a term.
func namesOf(x impl.Term) map[string]int {
	counts := map[string]int{}
	for _, s := range laidTerm(stands{x, 1, nil, nil}) {
		if one := s.what.(impl.Term); one.Kind == 2 {
			counts[one.Name]++
		}
	}
	return counts
}

// P97: a simpler term has no other names, and none of them more often.
func TestP97NoOtherNames(t *testing.T) {
	t.Parallel()
	tell := func(x impl.Term) {
		simple, had := impl.SimpTerm(x), namesOf(x)
		for name, n := range namesOf(simple) {
			if n > had[name] {
				t.Fatalf("it has %q %d times, not %d, made simpler as\n%s\nof\n%s", name, n, had[name], termWords(simple), termWords(x))
			}
		}
	}
	for _, x := range anyTerms(40000) {
		tell(x)
		// Each name stands there once.
		count := 0
		tell(inTerms(terms(x), func(string) impl.Term {
			count++
			return nameTerm(numbered(count)[count-1])
		})[0])
	}
	eachFoldedTerm(10000, func(names []string, types []impl.Type, x impl.Term) { tell(x) })
}

// P98: what a program is told as, made simpler, tidied or not, says the same, and fails alike.
func TestP98ToldFunctionsMadeSimplerSayTheSame(t *testing.T) {
	t.Parallel()
	count := counter{}
	eachTold(t, 800, func(p impl.Prog, list []impl.Pure, at int, args []impl.Val, through []impl.Val) {
		out := count.run(t, p, at, args, through)
		for _, fns := range inWays(list) {
			mustRunTold(t, fns, p.Fns[at], args, through, out)
		}
	})
	for _, p := range fullProgs(10) {
		for _, fns := range inWays(mustTold(t, p)) {
			mustRunAsTold(t, p, fns, 8)
		}
	}
	count.enough(t, 3000, 300)
}

// P98, of values that are of any types: then told functions fail by a part that is not there, a pair that is too deep, another part that is not of its type, or a sum of what is no number.
func TestP98ToldFunctionsGivenAnything(t *testing.T) {
	t.Parallel()
	r := rand.New(rand.NewSource(98))
	count := counter{}
	types := typesUpTo(4)
	for _, p := range someProgs(t, 150) {
		list := mustTold(t, p)
		ways := inWays(list)
		for _, fn := range list {
			for range 6 {
				var kinds []impl.Type
				for range fn.Params {
					kinds = append(kinds, types[r.Intn(len(types))])
				}
				args := anyVals(r, kinds)
				want := count.purely(t, list, fn.Name, args)
				for _, fns := range ways {
					mustSay(t, fns, fn.Name, args, want)
				}
			}
		}
	}
	count.enough(t, 500, 1000)
}

// P98, by hand: what was lent is told with numbers that are made of others, and fails in each way.
func TestP98ByHand(t *testing.T) {
	p := mustRead(t, "fn one\nlent a (i,i)\nhas n i\nset a.0 + + 1 2 @n\nlet x - 5 5\nset a.1 + @x < 3 4\nsays i + @a.0 @a.1\nfn two\nlent a i\nlent b i\nhas n i\npick r a b < 2 1\nset r - @r @n\ngives i r\nfn all\nlent p (i,i)\nhas n i\ncall x one to p of + 2 2\ncall r two to p.0 to p.1 of @n\nset r + @r + 100 200\nsays ((i,i),i) , , @x @n @p.1\n")
	list := mustTold(t, p)
	for _, c := range []struct{ name, given, want string }{
		{"one", "(1,2) 3", "says 7 (6,1)"}, {"one", "(1,2) 9995", "says 9999 (9998,1)"}, {"one", "(1,2) 9996", "fails"}, {"one", "(1,2) 9997", "fails"},
		{"one", "1 2", "fails"}, {"one", "((1,2),3) 4", "fails"}, {"one", "(1,(2,3)) 4", "fails"}, {"one", "(1,2) (3,4)", "fails"}, {"one", "(1,2)", "bad"},
		{"two", "4 9 3", "says 6"}, {"two", "4 2 3", "fails"}, {"two_", "4 9 3 77", "says 4 77"}, {"two_", "4 2 3 77", "fails"}, {"two", "(1,2) 9 3", "says 6"}, {"two", "4 (1,2) 3", "fails"},
		{"all", "(1,2) 1", "says ((8,1),300) (7,300)"}, {"all", "(1,2) 0", "says ((8,0),301) (7,301)"}, {"all", "(1,2) 2", "fails"}, {"all", "1 1", "fails"}, {"all", "(1,2) (1,1)", "fails"},
	} {
		mustSay(t, list, c.name, valsFrom(c.given), c.want)
		for _, fns := range inWays(list) {
			mustSay(t, fns, c.name, valsFrom(c.given), c.want)
		}
	}
	simpler := impl.SimpSize(impl.SimpOf(impl.TidyOf(impl.SimpOf(impl.TidyOf(list)))))
	if simpler >= impl.SimpSize(impl.TidyOf(list))-6 {
		t.Errorf("there are %d terms, tidied %d", simpler, impl.SimpSize(impl.TidyOf(list)))
	}
}

// Functions of all sorts say the same when they are made simpler, if they do not fail; and fail alike, if nothing in them that fails may be left out.
func TestFunctionsMadeSimplerSayTheSame(t *testing.T) {
	t.Parallel()
	count := counter{}
	tell := func(list []impl.Pure, at int, args []impl.Val) {
		want := count.purely(t, list, list[at].Name, args)
		for _, fns := range inWays(list)[1:] {
			if want == "fails" {
				want = pureWords(fns, list[at].Name, args)
			}
			mustSay(t, fns, list[at].Name, args, want)
		}
	}
	eachFolded(1000, tell)
	eachPure(t, 300, tell)
	eachMoved(t, 200, tell)
	count.enough(t, 5000, 1000)
	for _, c := range []struct{ text, given string }{
		{"f a\n say at.0 , at.0 a 5\n", "1"}, {"f a\n say at , a a\n", "(((1,2),3),4)"}, {"f a\n say put.0 put.0 a 1 2\n", "((1,2),3)"}, {"f a\n say + at a + 1 2\n", "(1,2)"}, {"f a\n say at.1 at.0 a\n", "(1,2)"}, {"f a b\n say put a put.0 b 1\n", "1 2"}, {"f a b\n say at.0 put.0 a - b 1\n", "(1,2) 0"},
		{"f a\n say at.1 put.0 at.1 a 5\n", "(1,2)"}, {"f a\n if at.0 , a 1\n  say\n else\n  say\n for\n say a\n", "(1,2)"}, {"e a\n say at at.0 a\nf a\n let b = e at.1 a\n say b\n", "(1,2)"}, {"f a\n say - 0 + 0 1; at a\n", "1"},
	} {
		list := puresFrom(c.text)
		mustSay(t, list, "f", valsFrom(c.given), "fails")
		for _, fns := range inWays(list) {
			mustSay(t, fns, "f", valsFrom(c.given), "fails")
		}
	}
}

// P99: functions made simpler are ok, with as many bindings, and say as much.
func TestP99FunctionsMadeSimplerAreOk(t *testing.T) {
	t.Parallel()
	for _, list := range simpLists(t, 250) {
		simpler := impl.SimpOf(list)
		if !impl.PureOk(simpler) || !isPures(simpler) || len(simpler) != len(list) || impl.TidySize(simpler) != impl.TidySize(list) {
			t.Fatalf("made simpler it is not ok, or not as many: %+v", simpler)
		}
		for n, fn := range list {
			other := simpler[n]
			if other.Name != fn.Name || !slices.Equal(other.Params, fn.Params) || len(other.Body.Says) != len(fn.Body.Says) {
				t.Fatalf("made simpler as\n%sof\n%s", puresText(simpler), puresText(list))
			}
			if !slices.Equal(namesIn(other.Body), namesIn(fn.Body)) || !slices.Equal(bodySizes(other.Body), bodySizes(fn.Body)) || !slices.Equal(callsAndChoices(other.Body, 1), callsAndChoices(fn.Body, 1)) {
				t.Fatalf("other bindings, made simpler as\n%sof\n%s", puresText(simpler), puresText(list))
			}
		}
	}
}

// P100: a part of a pair with a name is simpler as that part, unless it stays as it was.
func TestP100APartOfAPairWithAName(t *testing.T) {
	t.Parallel()
	r := rand.New(rand.NewSource(100))
	paths := termPaths()[1:]
	count := map[bool]int{}
	for n := range 60000 {
		x := anyTerm(r, 1+n%6)
		path := paths[r.Intn(len(paths))]
		kids := terms(nameTerm("n"), nameTerm("n"))
		if n%5 == 0 {
			kids = terms(numTerm(7), numTerm(7))
		}
		kids[path[0]] = x
		part := atTerm(impl.Term{Kind: 6, Kids: kids}, path...)
		got, want := impl.SimpTerm(part), impl.SimpTerm(atTerm(x, path[1:]...))
		if count[sameThing(got, part)]++; !sameThing(got, part) && !sameThing(got, want) {
			t.Fatalf("it is\n%s\nnot\n%s\nmade simpler of\n%s", termWords(got), termWords(want), termWords(part))
		}
		// It stays just if a path would be too long, and then that part stays, too.
		if sameThing(got, part) && !sameThing(want, atTerm(x, path[1:]...)) {
			t.Fatalf("it stays:\n%s", termWords(part))
		}
	}
	if count[false] < 30000 || count[true] < 1000 {
		t.Error("the test made too few of some kind:", count)
	}
}

// P101: what was put to a name is simpler as that, unless it stays as it was.
func TestP101WhatWasPutToAName(t *testing.T) {
	t.Parallel()
	r := rand.New(rand.NewSource(101))
	paths := termPaths()
	count := map[bool]int{}
	for n := range 60000 {
		x := anyTerm(r, 1+n%6)
		path := paths[r.Intn(len(paths))]
		whole := atTerm(putTerm(nameTerm("n"), x, path...), path...)
		if len(path) == 0 && n%2 == 0 {
			whole = putTerm(nameTerm("n"), x)
		}
		got, want := impl.SimpTerm(whole), impl.SimpTerm(x)
		if count[sameThing(got, whole)]++; !sameThing(got, whole) && !sameThing(got, want) {
			t.Fatalf("it is\n%s\nnot\n%s\nmade simpler of\n%s", termWords(got), termWords(want), termWords(whole))
		}
		if sameThing(got, whole) && !sameThing(want, x) {
			t.Fatalf("it stays:\n%s", termWords(whole))
		}
	}
	if count[false] < 30000 || count[true] < 1000 {
		t.Error("the test made too few of some kind:", count)
	}
}

// P102: what two numbers make is a number; what fails stays.
func TestP102WhatTwoNumbersMake(t *testing.T) {
	t.Parallel()
	numbers := []int{0, 1, 2, 3, 499, 500, 4999, 5000, 5001, 9997, 9998, 9999}
	r := rand.New(rand.NewSource(102))
	for range 200 {
		numbers = append(numbers, anyNumber(r))
	}
	for _, a := range numbers {
		for _, b := range numbers {
			for kind, n := range map[int]int{3: a + b, 4: a - b, 5: map[bool]int{true: 1, false: 0}[a < b]} {
				x := twoTerm(kind, numTerm(a), numTerm(b))
				want := x
				if n >= 0 && n <= 9999 {
					want = numTerm(n)
				}
				if got := impl.SimpTerm(x); !sameThing(got, want) {
					t.Fatalf("%q is %q, it should be %q", termWords(x), termWords(got), termWords(want))
				}
				if words := theseSay(nil, nil, x); words != theseSay(nil, nil, impl.SimpTerm(x)) {
					t.Fatalf("%q %s", termWords(x), words)
				}
			}
		}
	}
}

// P103: there are as many terms as in all functions together.
func TestP103AsManyTermsAsInAllFunctions(t *testing.T) {
	t.Parallel()
	for _, list := range simpLists(t, 250) {
		size := 0
		for n, fn := range list {
			eachTermIn(&fn.Body, func(x *impl.Term) { size += termSize(*x) })
			if got := impl.SimpSize(list[:n+1]); got != size {
				t.Fatalf("there are %d terms, not %d, up to %s of\n%s", got, size, fn.Name, puresText(list))
			}
		}
		if len(list) == 0 || len(list) == 10 {
			continue
		}
		wrapped := wrapPure("zz", list[0])
		more := len(list[0].Params) + len(list[0].Body.Says)
		if got := impl.SimpSize(append(slices.Clone(list), wrapped)); got != size+more {
			t.Fatalf("with one more call there are %d terms, not %d, in\n%s", got, size+more, puresText(list))
		}
		if got := impl.SimpSize(append(slices.Clone(list), list[0])); got != -1 {
			t.Fatalf("of what is not ok there are %d terms, in\n%s", got, puresText(list))
		}
	}
}

// All that is drawn is made simpler as the rules have it that are told in another way.
func TestDrawnFunctionsMadeSimpler(t *testing.T) {
	t.Parallel()
	for _, list := range simpLists(t, 250) {
		mustSimpFns(t, list)
	}
	for _, p := range fullProgs(15) {
		list := mustTold(t, p)
		mustSimpFns(t, list)
		mustSimpFns(t, impl.TidyOf(list))
	}
}
