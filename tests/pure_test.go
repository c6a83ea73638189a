package tests

import (
	"math"
	"slices"
	"strconv"
	"strings"
	"testing"

	"loop.example/handfast/impl"
)

func TestPureConstants(t *testing.T) {
	kinds := []int{impl.TermNum, impl.TermName, impl.TermAdd, impl.TermSub, impl.TermLess, impl.TermPair, impl.TermAt, impl.TermPut, impl.BindTerm, impl.BindCall, impl.BindIf}
	if !slices.Equal(kinds, []int{1, 2, 3, 4, 5, 6, 7, 8, 1, 2, 3}) {
		t.Error(kinds)
	}
}

// pureOk checks that functions are ok, and have a text.
func pureOk(t *testing.T, what string, list []impl.Pure) {
	t.Helper()
	if !isPures(list) {
		t.Errorf("%s: the tests' own rules do not take it: %.500s", what, impl.PureText(list))
	}
	if !impl.PureOk(list) {
		t.Errorf("%s: not ok", what)
	}
	if got := impl.PureText(list); got != puresText(list) {
		t.Errorf("%s: written as %.500q, not as %.500q", what, got, puresText(list))
	}
}

// notPureOk checks that functions are not ok, have no text, and are not run.
func notPureOk(t *testing.T, what string, list []impl.Pure) {
	t.Helper()
	if impl.PureOk(list) {
		t.Errorf("%s: ok", what)
	}
	if isPures(list) {
		t.Errorf("%s: the tests' own rules take it", what)
	}
	if got := impl.PureText(list); got != "" {
		t.Errorf("%s: written as %.500q", what, got)
	}
	for _, fn := range append(list, impl.Pure{}) {
		if len(fn.Params) > 100 || len(list) > 100 {
			continue
		}
		if got := inWords(impl.PureRun(list, fn.Name, again(len(fn.Params), number(0)))); got != "bad" {
			t.Errorf("%s: it %s", what, got)
		}
	}
}

// pureSamples is functions that are ok, as they are written; by hand.
var pureSamples = []string{
	"",
	"f\n say\n",
	"f\n say 0\n",
	"f a\n say\n",
	"f a\n say a\n",
	"f a b c\n say c; b; 3; a; a\n",
	"f a b\n say + a b; - a b; < a b; , a b\n",
	"f a\n say at a; at.0 a; at.1 a; at.0.1 a; at.1.1.0.1 a\n",
	"f a\n say put a 1; put.0 a 1; put.1 a a; put.1.0 a a; put.0.0.0.0 a 9999\n",
	"f a\n say at.0 at.1 a; put.0 put.1 a 2 at.0 a; + + 1 2 - < 3 4 , 5 6\n",
	"f a\n b = a\n c = b\n say c\n",
	"f a\n a = + a 1\n a = , a a\n b = a\n b = at.0 b\n say a; b\n",
	"f a\n b = 1\n b = 2\n say b\n",
	"f\n say 1; 2\ng\n let a b = f\n let b a = f\n say a; b\n",
	"f\n say\ng a\n let = f\n say a\n",
	"f a\n say\ng a\n let = f 5\n let = f a\n say a\n",
	"f\n say 1\ng a\n let a = f\n let a = f\n say a\n",
	"f a b\n say b; a\ng a\n let x y = f a; + a 1\n let y a = f y; x\n say a; x; y\n",
	"f a\n say + a 1\ng a\n let a = f a\n say a\nh a\n let a = g a\n let a = f a\n say a\n",
	"f a\n if a\n  say 1\n else\n  say 2\n for b\n say b\n",
	"f a\n if < a 3\n  say\n else\n  say\n for\n say a\n",
	"f a\n if a\n  say a; 1; 2\n else\n  say 3; a; 4\n for x y a\n say x; y; a\n",
	"f a\n if a\n  a = + a 1\n  x = a\n  say x\n else\n  x = 7\n  a = x\n  say a\n for b\n x = 1\n say a; b; x\n",
	"f a\n x = 1\n if a\n  x = 2\n  say x\n else\n  say x\n for y\n say x; y\n",
	"f a\n if a\n  if < a 5\n   say 1\n  else\n   b = 2\n   say b\n  for a\n  say a\n else\n  c = 3\n  if c\n   say 4\n  else\n   say a\n  for d\n  say d\n for r\n say r\n",
	"g a\n say a; a\nf a\n if a\n  let x y = g a\n  say x\n else\n  let a x = g 3\n  say x\n for x\n say x\n",
	"a a\n a = a\n say a\nb b\n let b = a b\n say b\n",
	"F_1 A_z 0z 9_ _ __\n Zz = 0z\n say Zz; _; __; 9_\n",
	"abcdefghijkl ABCDEFGHIJKL\n z12345678901 = ABCDEFGHIJKL\n say z12345678901\nm\n let _23456789012 = abcdefghijkl 5\n say _23456789012\n",
}

func TestFunctionsAndTheirTexts(t *testing.T) {
	for _, text := range pureSamples {
		list := puresFrom(text)
		pureOk(t, text, list)
		if got := impl.PureText(list); got != text {
			t.Errorf("%q is written as %q", text, got)
		}
	}
	if !impl.PureOk(nil) || !impl.PureOk([]impl.Pure{}) || impl.PureText([]impl.Pure{}) != "" {
		t.Error("no functions at all")
	}
}

// Names may be written as other things are; figures alone are one, too.
func TestNamesLikeOtherThings(t *testing.T) {
	words := []string{"say", "let", "if", "else", "for", "at", "put", "0", "12", "9999", "007", "_"}
	for _, word := range words {
		fn := pure(word, word, saying(terms(nameTerm(word), atTerm(nameTerm(word))), bindTerm(word, nameTerm(word))))
		caller := pure("caller", "a", saying(terms(nameTerm(word)), bindCall([]string{word, "b"}, word, nameTerm("a"))))
		pureOk(t, word, []impl.Pure{fn, caller})
		W := strings.ReplaceAll("W W\n W = W\n say W; at W\ncaller a\n let W b = W a\n say W\n", "W", word)
		if got := impl.PureText([]impl.Pure{fn, caller}); got != W {
			t.Errorf("%q, not %q", got, W)
		}
		mustSay(t, []impl.Pure{fn, caller}, "caller", valsFrom("(3,4)"), "says (3,4)")
	}
	mustSay(t, []impl.Pure{pure("7", "8", saying(terms(nameTerm("8"), numTerm(8))))}, "7", valsFrom("5"), "says 5 8")
}

// pureWrong is functions that are not ok, in form of lines; by hand.
var pureWrong = []string{
	// A name that is not bound, or bound only behind, or elsewhere.
	"f\n say a\n", "f a\n say b\n", "f a\n say A\n", "f a\n say + a b\n", "f a\n say at.0 b\n", "f a\n say put.0 a b\n", "f a\n say put.0 b a\n", "f a\n say a; b\n",
	"f\n b = a\n say b\n", "f\n a = a\n say 0\n", "f\n b = a\n a = 1\n say b\n", "f a\n b = , a b\n say b\n", "f\n say f\n", "f a\n say a\ng\n say a\n", "f a\n say a\ng\n x = f\n say 0\n",
	"f a\n say a\ng\n let x = f x\n say x\n", "f a\n say a\ng\n let x = f y\n y = 1\n say x\n", "f a b\n say a\ng c\n let x = f c; a\n say x\n",
	"f a\n if b\n  say\n else\n  say\n for\n say a\n", "f\n if x\n  say 1\n else\n  say 1\n for x\n say x\n", "f a\n if a\n  say x\n else\n  say 1\n for x\n say x\n", "f a\n if a\n  say 1\n else\n  say x\n for x\n say x\n",
	"f a\n if a\n  x = 1\n  say x\n else\n  say x\n for y\n say y\n", "f a\n if a\n  say x\n else\n  x = 1\n  say x\n for y\n say y\n", "f a\n if a\n  x = 1\n  say 1\n else\n  y = x\n  say 1\n for y\n say y\n",
	"f a\n if a\n  x = 1\n  say\n else\n  x = 1\n  say\n for\n say x\n", "f a\n if a\n  x = 1\n  say\n else\n  say\n for\n y = x\n say\n", "f a\n if a\n  say\n else\n  x = 2\n  say\n for\n say x\n",
	"f a\n if a\n  if a\n   x = 1\n   say\n  else\n   say\n  for\n  say x\n else\n  say 1\n for r\n say r\n", "f a\n if a\n  say\n else\n  say\n for\n b = c\n say\n",
	// A function that is none, or not ahead.
	"f\n let = f\n say\n", "f a\n let x = f a\n say x\n", "f\n let = g\n say\n", "f\n let = g\n say\ng\n say\n", "f\n say\ng\n let = h\n say\nh\n let = f\n say\n", "f\n say\ng\n let = F\n say\n", "f\n say\ng f a\n let = a\n say\n",
	"f\n say\ng a\n if a\n  let = g 1\n  say\n else\n  say\n for\n say\n", "f\n say\ng a\n if a\n  say\n else\n  let = h\n  say\n for\n say\n",
	// Too few, or too many.
	"f\n say\ng\n let = f 1\n say\n", "f a\n say\ng\n let = f\n say\n", "f a\n say\ng\n let = f 1; 2\n say\n", "f a b\n say\ng\n let = f 1\n say\n", "f a b\n say\ng\n let = f 1; 2; 3\n say\n",
	"f\n say\ng\n let x = f\n say\n", "f\n say 1\ng\n let = f\n say\n", "f\n say 1\ng\n let x y = f\n say\n", "f\n say 1; 2\ng\n let x = f\n say\n", "f\n say 1; 2\ng\n let x y z = f\n say\n", "f a b\n say 1\ng\n let x y = f 1; 2\n say\n",
	"f a\n if a\n  say 1\n else\n  say\n for x\n say\n", "f a\n if a\n  say\n else\n  say 1\n for x\n say\n", "f a\n if a\n  say\n else\n  say\n for x\n say\n", "f a\n if a\n  say 1\n else\n  say 1\n for\n say\n", "f a\n if a\n  say 1; 2\n else\n  say 1\n for x y\n say\n", "f a\n if a\n  say 1; 2\n else\n  say 1\n for x\n say\n", "f a\n if a\n  say 1\n else\n  say 1; 2\n for x y\n say\n", "f a\n if a\n  say 1\n else\n  say 1; 2\n for x\n say\n", "f a\n if a\n  say 1; 2\n else\n  say 1; 2\n for x\n say\n", "f a\n if a\n  say\n else\n  say 1\n for\n say\n", "f a\n if a\n  say 1\n else\n  say\n for\n say\n",
	"f a\n if a; a\n  say\n else\n  say\n for\n say\n", "f a\n if\n  say\n else\n  say\n for\n say\n", "f a\n x = a; a\n say\n", "f a\n x =\n say\n",
	// What stands twice.
	"f\n say\nf\n say\n", "f\n say\ng\n say\nf a\n say a\n", "f\n say\ng\n say\ng\n say\n", "f a a\n say\n", "f a b a\n say\n", "f a b b\n say\n",
	"f\n say 1; 2\ng\n let x x = f\n say\n", "f\n say 1; 2; 3\ng\n let x y x = f\n say\n", "f a\n if a\n  say 1; 2\n else\n  say 1; 2\n for x x\n say\n", "f a\n if a\n  say 1; 2; 3\n else\n  say 1; 2; 3\n for x y y\n say\n",
}

func TestFunctionsThatAreNotOk(t *testing.T) {
	for _, text := range pureWrong {
		list := puresFrom(text)
		notPureOk(t, text, list)
		// Nor are they beside others that are.
		notPureOk(t, text+"behind", append(slices.Clone(list), pure("zz", "", impl.Body{})))
		if !strings.Contains(text, "zz") {
			notPureOk(t, text+"ahead", append([]impl.Pure{pure("zz", "", impl.Body{})}, list...))
		}
	}
}

// withTerm has a term at each place where one may stand, where `a` is bound.
func withTerm(x impl.Term) map[string][]impl.Pure {
	one := pure("one", "a", saying(terms(nameTerm("a"))))
	nothing := saying(nil)
	y := []string{"y"}
	f := func(body impl.Body) []impl.Pure { return []impl.Pure{one, pure("f", "a", body)} }
	return map[string][]impl.Pure{
		"bound":         f(saying(nil, bindTerm("x", x))),
		"bound behind":  f(saying(nil, bindTerm("x", numTerm(1)), bindTerm("x", x))),
		"given":         f(saying(nil, bindCall(y, "one", x))),
		"chosen by":     f(saying(nil, bindIf(nil, x, nothing, nothing))),
		"said":          f(saying(terms(x))),
		"said last":     f(saying(terms(numTerm(1), x))),
		"bound in Then": f(saying(nil, bindIf(nil, numTerm(1), saying(nil, bindTerm("x", x)), nothing))),
		"bound in Else": f(saying(nil, bindIf(nil, numTerm(1), nothing, saying(nil, bindTerm("x", x))))),
		"said by Then":  f(saying(nil, bindIf(y, numTerm(1), saying(terms(x)), saying(terms(numTerm(0)))))),
		"said by Else":  f(saying(nil, bindIf(y, numTerm(1), saying(terms(numTerm(0))), saying(terms(x))))),
		"first of all":  {pure("f", "a", saying(terms(x))), one},
	}
}

func termIsOk(t *testing.T, what string, x impl.Term) {
	t.Helper()
	for where, list := range withTerm(x) {
		pureOk(t, what+" "+where, list)
	}
}

func termIsNotOk(t *testing.T, what string, x impl.Term) {
	t.Helper()
	for where, list := range withTerm(x) {
		notPureOk(t, what+" "+where, list)
	}
}

// deepTerm is so deep by one side of terms of a kind.
func deepTerm(deep int, kind int, side int) impl.Term {
	x := nameTerm("a")
	for ; deep > 1; deep-- {
		if kind == 7 {
			x = atTerm(x, 0)
			continue
		}
		x = []impl.Term{twoTerm(kind, x, numTerm(1)), twoTerm(kind, numTerm(1), x)}[side]
		if kind == 8 {
			x.Path = []int{1}
		}
	}
	return x
}

func TestDeepTerms(t *testing.T) {
	for kind := 3; kind <= 8; kind++ {
		for side := range 2 {
			for deep := 1; deep <= 8; deep++ {
				termIsOk(t, "deep", deepTerm(deep, kind, side))
			}
			termIsNotOk(t, "too deep", deepTerm(9, kind, side))
			termIsNotOk(t, "too deep", deepTerm(10, kind, side))
		}
	}
	termIsNotOk(t, "far too deep", deepTerm(100000, 3, 0))
	termIsNotOk(t, "far too deep", deepTerm(100000, 7, 0))
}

func TestPathsOfTerms(t *testing.T) {
	for size := 0; size <= 6; size++ {
		for _, path := range pathsOf(size, []int{0, 1}) {
			test := termIsOk
			if size > 4 {
				test = termIsNotOk
			}
			test(t, "path", atTerm(nameTerm("a"), path...))
			test(t, "path", putTerm(nameTerm("a"), numTerm(1), path...))
		}
	}
	for _, odd := range []int{math.MinInt, -2, -1, 2, 3, 10, math.MaxInt} {
		for _, path := range [][]int{{odd}, {odd, 0}, {0, odd}, {1, odd, 1}, {0, 1, 0, odd}} {
			termIsNotOk(t, "wrong path", atTerm(nameTerm("a"), path...))
			termIsNotOk(t, "wrong path", putTerm(nameTerm("a"), numTerm(1), path...))
		}
	}
}

func TestNumbersOfTerms(t *testing.T) {
	for _, n := range []int{0, 1, 10, 9998, 9999} {
		termIsOk(t, "number", numTerm(n))
		termIsOk(t, "number", twoTerm(6, numTerm(n), numTerm(n)))
	}
	for _, n := range []int{math.MinInt, -9999, -1, 10000, 10001, math.MaxInt} {
		termIsNotOk(t, "wrong number", numTerm(n))
		termIsNotOk(t, "wrong number", twoTerm(3, nameTerm("a"), numTerm(n)))
		termIsNotOk(t, "wrong number", atTerm(numTerm(n)))
	}
}

// kindsOfTerms is a term of each kind that is ok.
func kindsOfTerms() []impl.Term {
	a := nameTerm("a")
	return terms(numTerm(1), a, twoTerm(3, a, a), twoTerm(4, a, a), twoTerm(5, a, a), twoTerm(6, a, a), atTerm(a, 0), putTerm(a, a, 0))
}

// Of terms each field is tried that does not belong to their kind, and each number of Kids.
func TestWhatDoesNotBelongToTerms(t *testing.T) {
	for _, x := range kindsOfTerms() {
		termIsOk(t, "kind", x)
		for _, n := range []int{1, -1, 9999} {
			other := x
			other.Num = n
			if x.Kind != 1 {
				termIsNotOk(t, "a number", other)
			}
		}
		for _, name := range []string{"a", "zz", " "} {
			other := x
			other.Name = name
			if x.Kind != 2 {
				termIsNotOk(t, "a name", other)
			}
		}
		for _, path := range [][]int{{0}, {1, 0}, {7}} {
			other := x
			other.Path = path
			if x.Kind < 7 {
				termIsNotOk(t, "a path", other)
			}
		}
		for n := range 5 {
			other := x
			other.Kids = again(n, nameTerm("a"))
			if n != len(x.Kids) {
				termIsNotOk(t, "Kids", other)
			}
		}
		// What only a pair's Kids have is wrong, too.
		bad := x
		bad.Kind = 0
		termIsNotOk(t, "a Kid", twoTerm(6, x, bad))
		termIsNotOk(t, "a Kid", twoTerm(3, bad, x))
		termIsNotOk(t, "a Kid", putTerm(bad, x, 0))
		termIsNotOk(t, "a Kid", putTerm(x, bad, 0))
		termIsNotOk(t, "a Kid", atTerm(bad, 0))
		for _, kind := range []int{math.MinInt, -1, 0, 9, 10, math.MaxInt} {
			other := x
			other.Kind = kind
			termIsNotOk(t, "kind", other)
		}
	}
	termIsNotOk(t, "nothing", impl.Term{})
	for kind := range 10 {
		termIsNotOk(t, "nothing of a kind but a number", impl.Term{Kind: []int{0, 2, 3, 4, 5, 6, 7, 8, 9, 10}[kind]})
	}
}

// withBind has a binding at each place where one may stand, where `a` is bound, and functions without and with Params and terms that they say stand ahead.
func withBind(b impl.Bind) map[string][]impl.Pure {
	ahead := puresFrom("none\n say\none a\n say a\ntwo a b\n say a; b\n")
	f := func(body impl.Body) []impl.Pure { return append(slices.Clone(ahead), pure("f", "a", body)) }
	return map[string][]impl.Pure{
		"alone":   f(saying(nil, b)),
		"first":   f(saying(nil, b, bindTerm("x", numTerm(1)))),
		"last":    f(saying(nil, bindTerm("x", numTerm(1)), b)),
		"in Then": f(saying(nil, bindIf(nil, numTerm(1), saying(nil, b), impl.Body{}))),
		"in Else": f(saying(nil, bindIf(nil, numTerm(1), impl.Body{}, saying(nil, b)))),
	}
}

func bindIsOk(t *testing.T, what string, b impl.Bind) {
	t.Helper()
	for where, list := range withBind(b) {
		pureOk(t, what+" "+where, list)
	}
}

func bindIsNotOk(t *testing.T, what string, b impl.Bind) {
	t.Helper()
	for where, list := range withBind(b) {
		notPureOk(t, what+" "+where, list)
	}
}

// kindsOfBinds is bindings of each kind that are ok.
func kindsOfBinds() []impl.Bind {
	a := nameTerm("a")
	one := saying(terms(a))
	return []impl.Bind{bindTerm("x", a), bindCall(nil, "none"), bindCall([]string{"x"}, "one", a), bindCall([]string{"x", "y"}, "two", a, a), bindIf(nil, a, impl.Body{}, impl.Body{}), bindIf([]string{"x"}, a, one, one), bindIf([]string{"a"}, a, saying(terms(a), bindTerm("x", a)), one)}
}

// Of bindings each field is tried that does not belong to their kind, and each number of Names and Terms.
func TestWhatDoesNotBelongToBindings(t *testing.T) {
	a := nameTerm("a")
	for _, b := range kindsOfBinds() {
		bindIsOk(t, "kind", b)
		for _, fn := range []string{"", "none", "one", "f", "zz", " "} {
			other := b
			other.Fn = fn
			if fn != b.Fn && !(b.Kind != 2 && fn == "") {
				bindIsNotOk(t, "a function", other)
			}
		}
		for n := range 4 {
			other := b
			other.Terms = again(n, a)
			if n != len(b.Terms) {
				bindIsNotOk(t, "Terms", other)
			}
			other = b
			other.Names = numbered(n)
			if n != len(b.Names) {
				bindIsNotOk(t, "Names", other)
			}
		}
		for _, body := range []impl.Body{saying(terms(a)), saying(nil, bindTerm("x", a)), saying(terms(numTerm(1)), bindTerm("x", a))} {
			yes, no, both := b, b, b
			yes.Then, no.Else, both.Then, both.Else = body, body, body, body
			if b.Kind != 3 {
				bindIsNotOk(t, "Then", yes)
				bindIsNotOk(t, "Else", no)
				bindIsNotOk(t, "both bodies", both)
			}
		}
		for _, kind := range []int{math.MinInt, -1, 0, 4, 5, math.MaxInt} {
			other := b
			other.Kind = kind
			bindIsNotOk(t, "kind", other)
		}
	}
	for kind := range 5 {
		bindIsNotOk(t, "nothing of a kind", impl.Bind{Kind: kind})
	}
}

// withPureName has a name at each place where one is given; it is used where it can be.
func withPureName(name string) map[string][]impl.Pure {
	one := pure("one", "a", saying(terms(nameTerm("a"))))
	f := func(params string, body impl.Body) []impl.Pure { return []impl.Pure{one, pure("f", params, body)} }
	param := pure("f", "", saying(terms(nameTerm(name))))
	param.Params = []string{"p", name}
	said := saying(terms(numTerm(1)))
	two := saying(terms(numTerm(1), numTerm(1)))
	return map[string][]impl.Pure{
		"function": {impl.Pure{Name: name}},
		"called":   {impl.Pure{Name: name}, pure("caller", "", saying(nil, bindCall(nil, name)))},
		"param":    {param},
		"BindTerm": f("p", saying(terms(nameTerm(name)), bindTerm(name, numTerm(1)))),
		"BindCall": f("p", saying(terms(nameTerm(name)), bindCall([]string{name}, "one", numTerm(1)))),
		"BindIf":   f("p", saying(terms(nameTerm(name)), bindIf([]string{name}, numTerm(1), said, said))),
		"second":   f("p", saying(terms(nameTerm(name)), bindIf([]string{"p", name}, numTerm(1), two, two))),
		"in Then":  f("p", saying(nil, bindIf(nil, numTerm(1), saying(nil, bindTerm(name, numTerm(1))), impl.Body{}))),
		"in Else":  f("p", saying(nil, bindIf(nil, numTerm(1), impl.Body{}, saying(nil, bindTerm(name, numTerm(1)))))),
	}
}

func TestNamesOfFunctions(t *testing.T) {
	right := []string{"a", "z", "A", "Z", "0", "9", "_", "aZ_09", "abcdefghijkl", "ABCDEFGHIJKL", "012345678901", "____________"}
	wrong := []string{"", "abcdefghijklm", "0123456789012", "_____________", strings.Repeat("a", 1<<16), " ", "a b", "a\n", "\na", "a.0", "a;", "+", "-", "ä", "aé", "\x00", "a\x00", "\xff", "ａ", "٣"}
	for b := range 256 {
		name := string([]byte{'a', byte(b)})
		letter := b >= 'a' && b <= 'z' || b >= 'A' && b <= 'Z'
		if letter || b >= '0' && b <= '9' || b == '_' {
			right = append(right, name, string([]byte{byte(b)}), string([]byte{byte(b), 'a'}))
		} else {
			wrong = append(wrong, name, string([]byte{byte(b)}), string([]byte{byte(b), 'a'}), "abcdefghijk"+string([]byte{byte(b)}))
		}
	}
	for _, name := range right {
		for where, list := range withPureName(name) {
			if where == "param" && name == "p" || where == "second" && name == "p" {
				continue // it would stand twice
			}
			pureOk(t, name+" "+where, list)
		}
	}
	for _, name := range wrong {
		for where, list := range withPureName(name) {
			notPureOk(t, strconv.Quote(name)[:min(20, len(strconv.Quote(name)))]+" "+where, list)
		}
	}
}

func TestLimitOfPures(t *testing.T) {
	var list []impl.Pure
	for n := range 30 {
		if n <= 10 {
			pureOk(t, "functions", list)
		} else {
			notPureOk(t, "too many functions", list)
		}
		list = append(list, pure("f"+strconv.Itoa(n), "a", saying(terms(nameTerm("a")))))
	}
	notPureOk(t, "far too many functions", make([]impl.Pure, 1<<16))
}

func TestLimitOfParams(t *testing.T) {
	for _, n := range []int{0, 1, 59, 60, 61, 62, 1000} {
		fn := impl.Pure{Name: "f", Params: numbered(n)}
		// As many terms are given then as there are Params.
		caller := pure("g", "a", saying(nil, bindCall(nil, "f", again(n, nameTerm("a"))...)))
		if n <= 60 {
			pureOk(t, "params", []impl.Pure{fn})
			pureOk(t, "terms", []impl.Pure{fn, caller})
			caller.Body.Binds[0].Terms = again(n+1, nameTerm("a"))
			notPureOk(t, "one term more", []impl.Pure{fn, caller})
		} else {
			notPureOk(t, "too many params", []impl.Pure{fn})
			notPureOk(t, "too many terms", []impl.Pure{fn, caller})
		}
	}
}

func TestLimitOfWhatIsSaid(t *testing.T) {
	for _, n := range []int{0, 1, 59, 60, 61, 62, 1000} {
		test := pureOk
		if n > 60 {
			test = notPureOk
		}
		fn := pure("f", "a", saying(again(n, nameTerm("a"))))
		test(t, "said", []impl.Pure{fn})
		test(t, "said and called", []impl.Pure{fn, pure("g", "a", saying(nil, bindCall(numbered(n), "f", nameTerm("a"))))})
		test(t, "said by both", []impl.Pure{pure("f", "a", saying(nil, bindIf(numbered(n), nameTerm("a"), fn.Body, fn.Body)))})
	}
	// With one name more than is said, and than there may be.
	fn := pure("f", "", saying(again(60, numTerm(1))))
	notPureOk(t, "one name more", []impl.Pure{fn, pure("g", "", saying(nil, bindCall(numbered(61), "f")))})
	notPureOk(t, "one name more", []impl.Pure{pure("f", "", saying(nil, bindIf(numbered(61), numTerm(1), fn.Body, fn.Body)))})
	more := saying(again(61, numTerm(1)))
	notPureOk(t, "Then says more", []impl.Pure{pure("f", "", saying(nil, bindIf(numbered(60), numTerm(1), more, fn.Body)))})
	notPureOk(t, "Else says more", []impl.Pure{pure("f", "", saying(nil, bindIf(numbered(60), numTerm(1), fn.Body, more)))})
}

// A body's own bindings count, not those in it.
func TestLimitOfBindings(t *testing.T) {
	t.Parallel()
	for _, n := range []int{399, 400, 401, 402, 1000} {
		test := pureOk
		if n > 400 {
			test = notPureOk
		}
		full := saying(nil, again(n, bindTerm("x", nameTerm("a")))...)
		yes, no, both := bindIf(nil, nameTerm("a"), full, impl.Body{}), bindIf(nil, nameTerm("a"), impl.Body{}, full), bindIf(nil, nameTerm("a"), full, full)
		deep := bindIf(nil, nameTerm("a"), impl.Body{}, saying(nil, both))
		for _, body := range []impl.Body{full, saying(nil, yes), saying(nil, no), saying(nil, both), saying(nil, yes, no, both), saying(nil, deep, yes)} {
			test(t, "bindings", []impl.Pure{pure("f", "a", body)})
			test(t, "bindings", []impl.Pure{pure("e", "", impl.Body{}), pure("f", "a", body), pure("g", "", impl.Body{})})
		}
		test(t, "choices", []impl.Pure{pure("f", "a", saying(nil, again(n, bindIf(nil, nameTerm("a"), impl.Body{}, impl.Body{}))...))})
		test(t, "calls", []impl.Pure{pure("e", "", impl.Body{}), pure("f", "a", saying(nil, again(n, bindCall(nil, "e"))...))})
	}
}

// deepBody has bodies so deep, itself being one, by Then or Else.
func deepBody(deep int, side int, last impl.Body) impl.Body {
	if deep == 1 {
		return last
	}
	inner := deepBody(deep-1, side, last)
	if side == 0 {
		return saying(nil, bindIf(nil, nameTerm("a"), inner, impl.Body{}))
	}
	return saying(nil, bindTerm("x", nameTerm("a")), bindIf(nil, nameTerm("a"), impl.Body{}, inner))
}

// A body that is nothing is as deep as any other one.
func TestDeepBodies(t *testing.T) {
	for side := range 2 {
		for _, last := range []impl.Body{{}, saying(nil, bindTerm("x", nameTerm("a"))), saying(nil, bindTerm("b", nameTerm("a")), bindTerm("c", nameTerm("b")))} {
			for deep := 1; deep <= 6; deep++ {
				pureOk(t, "deep", []impl.Pure{pure("f", "a", deepBody(deep, side, last))})
			}
			for _, deep := range []int{7, 8, 20} {
				notPureOk(t, "too deep", []impl.Pure{pure("f", "a", deepBody(deep, side, last))})
			}
		}
	}
	// Who is called may be as deep again.
	deep := pure("f", "a", deepBody(6, 0, impl.Body{}))
	pureOk(t, "called", []impl.Pure{deep, pure("g", "a", deepBody(6, 1, saying(nil, bindCall(nil, "f", nameTerm("a")))))})
}

// One thing is changed at a time, of functions that are ok.
func TestOneThingChangedOfFunctions(t *testing.T) {
	t.Parallel()
	count := map[bool]int{}
	for _, text := range pureSamples {
		list := copyOf(puresFrom(text))
		changesOf(&list, func() {
			want := isPures(list)
			count[want]++
			if got := impl.PureOk(list); got != want {
				t.Fatalf("%v, it should be %v: %+v", got, want, list)
			}
			if got := impl.PureText(list); got != puresText(list) {
				t.Fatalf("%q, not %q", got, puresText(list))
			}
			for _, fn := range list {
				args := again(min(len(fn.Params), 100), number(1))
				if got, want := inWords(impl.PureRun(list, fn.Name, args)), pureWords(list, fn.Name, args); got != want {
					t.Fatalf("%s %s, it should be: %s: %+v", fn.Name, got, want, list)
				}
			}
		})
	}
	if count[true] < 1000 || count[false] < 10000 {
		t.Error("the test made too few of some kind:", count)
	}
}
