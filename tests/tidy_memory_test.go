package tests

import (
	"reflect"
	"slices"
	"strings"
	"testing"

	"loop.example/handfast/impl"
)

// Nothing is written into functions, nor behind the ends of their lists, ok or not; what lies there is not told.
func TestWhatIsTidiedIsNotChanged(t *testing.T) {
	t.Parallel()
	for _, list := range tidyLists(t, 150) {
		fns := roomy(list)
		mustTidy(t, fns)
		if !wholeThing(fns, roomy(list)) {
			t.Fatalf("changed:\n%s", puresText(list))
		}
	}
	for _, text := range pureWrong {
		fns := roomy(puresFrom(text))
		notTidied(t, text, fns)
		if !wholeThing(fns, roomy(puresFrom(text))) {
			t.Fatalf("changed: %q", text)
		}
	}
	turn := 0
	for _, text := range pureSamples {
		list := copyOf(puresFrom(text))
		changesOf(&list, func() {
			if turn++; turn%17 != 0 {
				return
			}
			fns := roomy(list)
			impl.TidyOf(fns)
			impl.TidySize(fns)
			if !wholeThing(fns, roomy(list)) {
				t.Fatalf("changed: %+v", list)
			}
		})
	}
}

// What is tidied lies in memory of its own: no two lists of it share any, nor do two names, nor one and what it is of, nor two answers.
func TestWhatIsTidiedSharesNothing(t *testing.T) {
	t.Parallel()
	for _, list := range tidyLists(t, 150) {
		fns := roomy(list)
		first, second := impl.TidyOf(fns), impl.TidyOf(fns)
		mine := pieces(reflect.ValueOf([][]impl.Pure{first, second}))
		if overlapWith(mine, pieces(reflect.ValueOf(fns))) {
			t.Fatalf("what is tidied shares memory with what it is of:\n%s", puresText(list))
		}
		if overlap(mine) {
			t.Fatalf("what is tidied shares memory with itself:\n%s", puresText(list))
		}
		if !sameThing(first, second) {
			t.Fatalf("what is tidied twice is not tidied twice the same:\n%s", puresText(list))
		}
	}
}

// Paths, names, Params, terms and bodies that lie in one memory are told each in one of its own.
func TestTidiedFunctionsThatShareMemory(t *testing.T) {
	words := []string{"a", "b", "c"}
	path := []int{0, 1, 0}
	at := impl.Term{Kind: 7, Path: path[:1], Kids: terms(nameTerm("a"))}
	put := impl.Term{Kind: 8, Path: path[:2], Kids: terms(nameTerm("a"), at)}
	both := terms(at, put, at)
	inner := impl.Body{Binds: []impl.Bind{bindTerm("b", nameTerm("a")), {Kind: 1, Names: words[1:2], Terms: both[1:2]}}, Says: both}
	choice := impl.Bind{Kind: 3, Names: words, Terms: terms(numTerm(1)), Then: inner, Else: inner}
	body := impl.Body{Binds: []impl.Bind{choice, choice}, Says: namesAsTerms(words...)}
	list := []impl.Pure{{Name: "f", Params: words[:1], Body: body}, {Name: "g", Params: words[:1], Body: body}}
	got := mustTidy(t, list)
	mine := pieces(reflect.ValueOf(got))
	if overlap(mine) || overlapWith(mine, pieces(reflect.ValueOf(list))) {
		t.Error("memory is shared")
	}
	one := " if 1\n  U2 = put.0.1 U1 at.0 U1\n  say at.0 U1; put.0.1 U1 at.0 U1; at.0 U1\n else\n  U3 = put.0.1 U1 at.0 U1\n  say at.0 U1; put.0.1 U1 at.0 U1; at.0 U1\n for U4 U5 U6\n"
	one += " if 1\n  U7 = put.0.1 U4 at.0 U4\n  say at.0 U4; put.0.1 U4 at.0 U4; at.0 U4\n else\n  U8 = put.0.1 U4 at.0 U4\n  say at.0 U4; put.0.1 U4 at.0 U4; at.0 U4\n for U9 U10 U11\n say U9; U10; U11\n"
	if text := impl.PureText(got); text != "f U1\n"+one+"g U1\n"+one {
		t.Errorf("%q", text)
	}
	if !slices.Equal(words, []string{"a", "b", "c"}) || !slices.Equal(path, []int{0, 1, 0}) {
		t.Error("changed:", words, path)
	}
}

// One name that stands in many places for one Param: each is told in memory of its own.
func TestTidiedParamInManyPlaces(t *testing.T) {
	list := puresFrom("e x\n y = x\n say y; x; y\nf a\n b = a\n c = b\n let x y z = e c\n d = + b + c a\n if c\n  q = b\n  say q; put.0.1 b c\n else\n  say a; put.0.1 c b\n for p q\n say a; b; c; at.0.1 b; at.0.1 c; x; p; d\n")
	mine := pieces(reflect.ValueOf(mustTidy(t, list)))
	if overlap(mine) || overlapWith(mine, pieces(reflect.ValueOf(list))) {
		t.Error("memory is shared")
	}
}

// What is written into an answer, or into what it is of, is not seen on the other side, nor by a later call; nor does what is not ok leave anything behind.
func TestNothingIsKeptOfWhatIsTidied(t *testing.T) {
	text := "g x\n say x\nf a b\n c = a\n d = put.0.1 c b\n let e = g d\n if c\n  say e\n else\n  say 1\n for h\n say h; c; at.1 d\n"
	want := "g U1\n say U1\nf U1 U2\n U3 = put.0.1 U1 U2\n let U4 = g U3\n if U1\n  say U4\n else\n  say 1\n for U5\n say U5; U1; at.1 U3\n"
	bad := puresFrom("f a\n b = c\n say b\n")
	for range 3 {
		list := puresFrom(text)
		first := impl.TidyOf(list)
		notTidied(t, "bad", bad)
		list[1].Body.Binds[1].Terms[0].Path[0] = 1
		list[1].Params[0] = "z"
		list[1].Body.Says[2].Path[0] = 0
		list[0].Name = "k"
		if got := impl.PureText(first); got != want {
			t.Errorf("what was tidied is changed: %q", got)
		}
		other := puresFrom(text)
		second := impl.TidyOf(other)
		second[1].Params[0] = "z"
		second[1].Body.Binds[0].Names[0] = "z"
		second[1].Body.Binds[0].Terms[0].Path[1] = 0
		second[1].Body.Binds[2].Then.Says[0].Name = "z"
		_ = append(second[1].Body.Binds[:1], impl.Bind{})
		if got := impl.PureText(other); got != text {
			t.Errorf("what it is of is changed: %q", got)
		}
		if got := tidyText(t, text); got != want {
			t.Errorf("%q", got)
		}
	}
}

// Nothing panics, and all calls end, whatever they are given.
func TestNoPanicAtWrongFunctionsThatAreTidied(t *testing.T) {
	for _, list := range endlessPures() {
		if got := impl.TidyOf(list); len(got) > 0 {
			t.Errorf("tidied: %d functions", len(got))
		}
		if got := impl.TidySize(list); got != -1 {
			t.Errorf("there are %d bindings", got)
		}
	}
}

// As much as there may be: Params, names, terms, bindings and bodies.
func TestTidiedOfAsMuchAsThereMayBe(t *testing.T) {
	all := namesAsTerms(numbered(60)...)
	body := saying(all, bindTerm("x", twoTerm(6, all[59], deepSum(7))))
	for range 5 {
		body = saying(all, bindTerm("y", numTerm(1)), bindIf(numbered(60), nameTerm("y"), body, saying(again(60, numTerm(0)))), bindTerm("n3", nameTerm("n4")))
	}
	list := []impl.Pure{{Name: "f0", Params: numbered(60), Body: body}}
	for n := 1; n < 10; n++ {
		list = append(list, wrapPure("f"+string(rune('0'+n)), list[n-1]))
	}
	tidied := mustTidy(t, list)
	var args []impl.Val
	for n := range 60 {
		args = append(args, number(n))
	}
	mustSay(t, tidied, "f9", args, pureWords(list, "f9", args))
	// 400 names that each stand for the one ahead, and are bound to that again.
	row := []impl.Bind{}
	for n, name := range numbered(400) {
		from := "a"
		if n > 0 {
			from = numbered(400)[n-1]
		}
		row = append(row, bindTerm(name, nameTerm(from)))
	}
	fn := pure("f", "a", saying(terms(nameTerm("n399"), nameTerm("a")), row...))
	if got := impl.PureText(impl.TidyOf([]impl.Pure{fn})); got != "f U1\n say U1; U1\n" {
		t.Errorf("%q", got)
	}
	// 400 bindings, each of the one ahead, none of which is left out.
	fn = pure("f", "a", saying(terms(nameTerm("a")), again(400, bindTerm("a", twoTerm(3, nameTerm("a"), numTerm(1))))...))
	got := impl.PureText(mustTidy(t, []impl.Pure{fn}))
	if !strings.HasSuffix(got, "\n U401 = + U400 1\n say U401\n") || impl.TidySize(impl.TidyOf([]impl.Pure{fn})) != 400 {
		t.Errorf("%q", got)
	}
}
