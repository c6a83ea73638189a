package tests

import (
	"reflect"
	"slices"
	"strings"
	"testing"

	"loop.example/handfast/impl"
)

// Nothing is written into terms and functions, nor behind the ends of their lists, ok or not; what lies there is not told.
func TestWhatIsMadeSimplerIsNotChanged(t *testing.T) {
	t.Parallel()
	for _, x := range anyTerms(4000) {
		one := roomy(x)
		mustSimp(t, one)
		if !wholeThing(one, roomy(x)) {
			t.Fatalf("changed: %q", termWords(x))
		}
	}
	for what, x := range wrongTerms() {
		one := roomy(x)
		notSimp(t, what, one)
		if !wholeThing(one, roomy(x)) {
			t.Fatalf("changed: %s", what)
		}
	}
	for _, list := range simpLists(t, 80) {
		fns := roomy(list)
		mustSimpFns(t, fns)
		if !wholeThing(fns, roomy(list)) {
			t.Fatalf("changed:\n%s", puresText(list))
		}
	}
	for _, text := range pureWrong {
		fns := roomy(puresFrom(text))
		notSimpler(t, text, fns)
		if !wholeThing(fns, roomy(puresFrom(text))) {
			t.Fatalf("changed: %q", text)
		}
	}
	turn := 0
	for _, text := range pureSamples {
		list := copyOf(puresFrom(text))
		changesOf(&list, func() {
			if turn++; turn%17 != 0 {
				return
			}
			fns := roomy(list)
			impl.SimpOf(fns)
			impl.SimpSize(fns)
			if !wholeThing(fns, roomy(list)) {
				t.Fatalf("changed: %+v", list)
			}
		})
	}
}

// What is made simpler lies in memory of its own: no two lists of it share any, nor do two names, nor one and what it is of, nor two answers; also where it stays as it was.
func TestWhatIsMadeSimplerSharesNothing(t *testing.T) {
	t.Parallel()
	for _, x := range anyTerms(4000) {
		one := roomy(x)
		first, second := impl.SimpTerm(one), impl.SimpTerm(one)
		mine := pieces(reflect.ValueOf([]impl.Term{first, second}))
		if overlap(mine) || overlapWith(mine, pieces(reflect.ValueOf(terms(one)))) {
			t.Fatalf("memory is shared by what is made simpler of\n%s", termWords(x))
		}
		if !sameThing(first, second) {
			t.Fatalf("not twice the same: %q", termWords(x))
		}
	}
	for _, list := range simpLists(t, 80) {
		fns := roomy(list)
		first, second := impl.SimpOf(fns), impl.SimpOf(fns)
		mine := pieces(reflect.ValueOf([][]impl.Pure{first, second}))
		if overlap(mine) || overlapWith(mine, pieces(reflect.ValueOf(fns))) {
			t.Fatalf("memory is shared by what is made simpler of\n%s", puresText(list))
		}
		if !sameThing(first, second) {
			t.Fatalf("not twice the same:\n%s", puresText(list))
		}
	}
}

// Paths that are put together, the rest of such, and paths that lie in one memory are told each in one of its own; also those of terms that stay.
func TestSimplerTermsThatShareMemory(t *testing.T) {
	path := []int{0, 1, 0, 1, 1}
	names := "abcabc"
	a, b := nameTerm(names[:1]), nameTerm(names[1:2])
	inner := impl.Term{Kind: 7, Path: path[:2], Kids: terms(a)}
	kids := terms(inner, inner)
	rest := impl.Term{Kind: 7, Path: path[:3], Kids: terms(twoTerm(6, inner, b))}
	put := impl.Term{Kind: 8, Path: path[:2], Kids: kids}
	for _, c := range []struct {
		term impl.Term
		want string
	}{
		{impl.Term{Kind: 6, Kids: kids}, ", at.0.1 a at.0.1 a"},
		{impl.Term{Kind: 7, Path: path[1:3], Kids: kids[:1]}, "at.0.1.1.0 a"},
		{impl.Term{Kind: 7, Path: path[1:4], Kids: kids[:1]}, "at.1.0.1 at.0.1 a"},
		{impl.Term{Kind: 6, Kids: terms(impl.Term{Kind: 7, Path: path[1:4], Kids: kids[:1]}, impl.Term{Kind: 7, Path: path[:1], Kids: kids[:1]})}, ", at.1.0.1 at.0.1 a at.0 at.0.1 a"},
		{rest, "at.0.1.1.0 a"},
		{impl.Term{Kind: 6, Kids: []impl.Term{{Kind: 7, Path: path[:2], Kids: kids[1:]}, {Kind: 7, Path: path[2:4], Kids: kids[1:]}}}, ", at.0.1.0.1 a at.0.1.0.1 a"},
		{put, "put.0.1 at.0.1 a at.0.1 a"},
		{impl.Term{Kind: 8, Path: path[2:4], Kids: terms(impl.Term{Kind: 8, Path: path[:2], Kids: terms(put, b)}, put)}, "put.0.1 put.0.1 at.0.1 a at.0.1 a put.0.1 at.0.1 a at.0.1 a"},
	} {
		got := mustSimp(t, c.term)
		if termWords(got) != c.want {
			t.Errorf("%q, not %q", termWords(got), c.want)
		}
		mine := pieces(reflect.ValueOf(terms(got)))
		if overlap(mine) || overlapWith(mine, pieces(reflect.ValueOf(terms(c.term)))) {
			t.Errorf("memory is shared by %q", c.want)
		}
	}
	if !slices.Equal(path, []int{0, 1, 0, 1, 1}) || !sameThing(kids, terms(inner, inner)) {
		t.Error("changed:", path, kids)
	}
}

// Paths, names, terms and bodies of functions that lie in one memory are told each in one of its own.
func TestSimplerFunctionsThatShareMemory(t *testing.T) {
	words := []string{"a", "b", "c"}
	path := []int{0, 1, 0}
	at := impl.Term{Kind: 7, Path: path[:1], Kids: terms(nameTerm("a"))}
	long := impl.Term{Kind: 7, Path: path[1:2], Kids: terms(at)}
	put := impl.Term{Kind: 8, Path: path[:2], Kids: terms(nameTerm("a"), long)}
	both := terms(at, put, long)
	inner := impl.Body{Binds: []impl.Bind{bindTerm("b", nameTerm("a")), {Kind: 1, Names: words[1:2], Terms: both[1:2]}}, Says: both}
	choice := impl.Bind{Kind: 3, Names: words, Terms: terms(numTerm(1)), Then: inner, Else: inner}
	body := impl.Body{Binds: []impl.Bind{choice, choice}, Says: namesAsTerms(words...)}
	list := []impl.Pure{{Name: "f", Params: words[:1], Body: body}, {Name: "g", Params: words[:1], Body: body}}
	got := mustSimpFns(t, list)
	mine := pieces(reflect.ValueOf(got))
	if overlap(mine) || overlapWith(mine, pieces(reflect.ValueOf(list))) {
		t.Error("memory is shared")
	}
	way := "  b = a\n  b = put.0.1 a at.0.1 a\n  say at.0 a; put.0.1 a at.0.1 a; at.0.1 a\n"
	one := " if 1\n" + way + " else\n" + way + " for a b c\n"
	if text := impl.PureText(got); text != "f a\n"+one+one+" say a; b; c\ng a\n"+one+one+" say a; b; c\n" {
		t.Errorf("%q", text)
	}
	if !slices.Equal(words, []string{"a", "b", "c"}) || !slices.Equal(path, []int{0, 1, 0}) {
		t.Error("changed:", words, path)
	}
}

// What is written into an answer, or into what it is of, is not seen on the other side, nor by a later call; nor does what is not ok leave anything behind.
func TestNothingIsKeptOfWhatIsMadeSimpler(t *testing.T) {
	text := "at.0.1 , put.1.0 put.1.0 at.0 at.1 a 2 + 1 2 b"
	want := "at.1 put.1.0 at.1.0 a 3"
	stay := "+ at.0.1 at.0.1.1 a + 1 2"
	fns := "f a\n b = " + text + "\n say b; " + stay + "\n"
	told := "f a\n b = " + want + "\n say b; " + stay + "\n"
	fns, told = strings.ReplaceAll(fns, "2 b", "2 a"), strings.ReplaceAll(told, "2 b", "2 a")
	for range 3 {
		x := termsFrom(strings.Fields(text))[0]
		first := impl.SimpTerm(x)
		other := termsFrom(strings.Fields(stay))[0]
		same := impl.SimpTerm(other)
		list := puresFrom(fns)
		simpler := impl.SimpOf(list)
		notSimp(t, "bad", numTerm(-1))
		notSimpler(t, "bad", []impl.Pure{{}})
		x.Path[1], x.Kids[0].Kids[0].Kids[1] = 0, numTerm(8)
		x.Kids[0].Kids[0].Kids[0].Kids[0].Kids[0].Path[0] = 0
		other.Kids[0].Path[0], other.Kids[1].Kids[0].Num = 1, 7
		list[0].Body.Binds[0].Terms[0].Path[1], list[0].Body.Says[1].Kids[0].Path[0], list[0].Params[0] = 0, 1, "z"
		if termWords(first) != want || termWords(same) != stay || impl.PureText(simpler) != told {
			t.Errorf("what was told is changed: %q %q %q", termWords(first), termWords(same), impl.PureText(simpler))
		}
		first.Path[0], first.Kids[0].Path[0], first.Kids[0].Kids[0].Path[0] = 0, 0, 0
		same.Kids[0].Path[0], same.Kids[0].Kids[0].Path[1] = 1, 0
		simpler[0].Params[0], simpler[0].Body.Binds[0].Names[0] = "z", "z"
		_ = append(simpler[0].Body.Says[:1], impl.Term{})
		if got := termWords(mustSimp(t, termsFrom(strings.Fields(text))[0])); got != want {
			t.Errorf("%q", got)
		}
		if got := simpText(t, fns); got != told {
			t.Errorf("%q", got)
		}
	}
}

// Nothing panics, and all calls end, whatever they are given: Kids that hold themselves, very many Kids, and very deep terms.
func TestNoPanicAtWrongTermsThatAreMadeSimpler(t *testing.T) {
	for _, list := range endlessPures() {
		if got := impl.SimpOf(list); len(got) > 0 {
			t.Errorf("made simpler: %d functions", len(got))
		}
		if got := impl.SimpSize(list); got != -1 {
			t.Errorf("there are %d terms", got)
		}
		for _, fn := range list[:min(len(list), 20)] {
			for _, x := range fn.Body.Says[:min(len(fn.Body.Says), 2)] {
				impl.SimpTerm(x)
			}
		}
	}
	many := make([]impl.Term, 1<<16)
	kids := make([]impl.Term, 2)
	for kind := -1; kind <= 10; kind++ {
		single := make([]impl.Term, 1)
		single[0] = impl.Term{Kind: kind, Kids: single}
		for n := range kids {
			kids[n] = impl.Term{Kind: kind, Kids: kids}
		}
		for n := range many {
			many[n] = impl.Term{Kind: kind, Kids: many}
		}
		for _, list := range [][]impl.Term{single, kids, many, many[:2], make([]impl.Term, 1<<16), again(1<<16, numTerm(1))} {
			notSimp(t, "Kids", impl.Term{Kind: kind, Kids: list})
			notSimp(t, "Kids in others", twoTerm(6, numTerm(1), atTerm(impl.Term{Kind: kind, Kids: list}, 0)))
			notSimp(t, "Kids, and too deep", atTerm(atTerm(atTerm(atTerm(atTerm(atTerm(atTerm(impl.Term{Kind: kind, Kids: list}))))))))
		}
		notSimp(t, "a deep one", deepTerm(100000, kind, 0))
		notSimp(t, "a deep one by the other side", deepTerm(100000, kind, 1))
	}
	notSimp(t, "a long path", atTerm(nameTerm("a"), make([]int, 1<<20)...))
	notSimp(t, "a long name", atTerm(nameTerm(strings.Repeat("a", 1<<20))))
}

// As much as there may be: Params, names, terms, bindings and bodies, of terms that are eight deep, all of which are made simpler.
func TestSimplerOfAsMuchAsThereMayBe(t *testing.T) {
	all := namesAsTerms(numbered(60)...)
	pair := func(x impl.Term) impl.Term { return atTerm(twoTerm(6, x, numTerm(1)), 0) }
	body := saying(again(60, pair(pair(pair(all[59])))), again(400, bindTerm("x", deepSum(8)))...)
	for range 5 {
		body = saying(all, bindTerm("y", numTerm(1)), bindIf(numbered(60), pair(pair(nameTerm("y"))), body, saying(again(60, deepSum(8)))))
	}
	list := []impl.Pure{{Name: "f0", Params: numbered(60), Body: body}}
	for n := 1; n < 10; n++ {
		list = append(list, wrapPure("f"+string(rune('0'+n)), list[n-1]))
	}
	simpler := mustSimpFns(t, list)
	if got := impl.SimpSize(simpler); got != 60+400+5*(60+1+1+60)+9*120 {
		t.Error(got)
	}
	var args []impl.Val
	for n := range 60 {
		args = append(args, number(n))
	}
	mustSay(t, simpler, "f9", args, pureWords(list, "f9", args))
}
