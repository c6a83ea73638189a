package tests

import (
	"fmt"
	"strings"
	"testing"

	"loop.example/handfast/impl"
)

func TestProgramConstants(t *testing.T) {
	got := []int{impl.ProgMaxFns, impl.ProgMaxParams, impl.ProgMaxStmts, impl.ProgMaxText, impl.ExprNum, impl.ExprRead, impl.ExprAdd, impl.ExprSub, impl.ExprLess, impl.ExprPair, impl.StmtLet, impl.StmtLend, impl.StmtSet, impl.StmtCall, impl.StmtIf, impl.StmtPick}
	if want := []int{5, 4, 40, 6000, 1, 2, 3, 4, 5, 6, 1, 2, 3, 4, 5, 6}; !sameThing(got, want) {
		t.Error(got)
	}
}

// P15, P16: each kind of statement and of expression, and of functions, is written as the document says, and read back.
func TestProgramsAndTheirTexts(t *testing.T) {
	for _, s := range samples() {
		if got := impl.ProgWrite(s.prog); got != s.text {
			t.Errorf("ProgWrite is %q, not %q", got, s.text)
		}
		if p, ok := impl.ProgRead(s.text); !ok || !sameThing(p, s.prog) {
			t.Errorf("ProgRead %q: %v %+v", s.text, ok, p)
		}
		if textOf(s.prog) != s.text || !isText(s.text) {
			t.Errorf("the tests' own rules refuse %q", s.text)
		}
	}
}

// P15, P16: programs of all kinds of parts are read back from their texts, and written as just those.
func TestAnyProgramIsReadBack(t *testing.T) {
	for _, p := range anyProgs(600) {
		taken(t, "any program", p)
	}
}

// P17: wherever functions are parted, both texts together are the text.
func TestTextOfFirstFunctionsAndTheRest(t *testing.T) {
	for _, p := range sampleProgs() {
		whole := impl.ProgWrite(p)
		for n := range len(p.Fns) + 1 {
			first, rest := impl.ProgWrite(fns(p.Fns[:n]...)), impl.ProgWrite(fns(p.Fns[n:]...))
			if first+rest != whole {
				t.Fatalf("%q and %q are not %q", first, rest, whole)
			}
			if got := mustRead(t, first); !sameThing(got.Fns, p.Fns[:n]) {
				t.Fatalf("%q is read as %+v", first, got)
			}
		}
	}
}

// P18, and what is in form at all: one thing of a program is changed at a time. It has a text just if it is in form still, and that is another one just if it is another program.
func TestOneThingChanged(t *testing.T) {
	for _, s := range samples() {
		p := copyOf(s.prog)
		changes(&p, func() {
			want := formText(p)
			got := impl.ProgWrite(p)
			if got != want {
				t.Fatalf("ProgWrite is %q, not %q, of %+v", got, want, p)
			}
			if want == "" {
				return
			}
			if sameThing(p, s.prog) != (got == s.text) {
				t.Fatalf("%q and %q", got, s.text)
			}
			if back, ok := impl.ProgRead(got); !ok || !sameThing(back, p) {
				t.Fatalf("ProgRead %q: %v %+v", got, ok, back)
			}
		})
		if !sameThing(p, s.prog) {
			t.Fatal("the test did not change it back")
		}
	}
}

// P18: of many programs no two have one text, but for those that are the same.
func TestNoTwoProgramsHaveOneText(t *testing.T) {
	list := sampleProgs()
	seen := map[string]impl.Prog{}
	for _, p := range append(list, copyOf(list)...) {
		text := impl.ProgWrite(p)
		if other, ok := seen[text]; ok && !sameThing(p, other) {
			t.Fatalf("%q is the text of %+v and of %+v", text, p, other)
		}
		seen[text] = p
	}
	for n, a := range list[:80] {
		for m, b := range list[:80] {
			if sameThing(a, b) != (impl.ProgWrite(a) == impl.ProgWrite(b)) {
				t.Fatal(n, m)
			}
		}
	}
}

// The empty list and the nil list are the same.
func TestEmptyListsAreNoLists(t *testing.T) {
	empty := impl.Expr{Kind: 1, Num: 3, Place: impl.Place{Path: []int{}}, Kids: []impl.Expr{}}
	none := impl.Place{Path: []int{}}
	s := impl.Stmt{Kind: 1, Name: "x", Place: none, Other: none, Expr: empty, Args: []impl.Arg{}, Then: []impl.Stmt{}, Else: []impl.Stmt{}}
	fn := impl.Fn{Name: "f", Params: []impl.Param{}, Type: impl.Type{Kids: []impl.Type{}}, Body: []impl.Stmt{s, call("y", "g", impl.Arg{Place: none, Expr: empty}, impl.Arg{Lent: true, Place: place("x"), Expr: impl.Expr{Place: none, Kids: []impl.Expr{}}})}, Says: empty, Gives: none}
	if got := impl.ProgWrite(fns(fn)); got != "fn f\nlet x 3\ncall y g of 3 to x\nsays i 3\n" {
		t.Errorf("%q", got)
	}
	if got := impl.ProgWrite(impl.Prog{Fns: []impl.Fn{}}); got != "" {
		t.Errorf("%q", got)
	}
}

func TestLimitOfFunctions(t *testing.T) {
	fn := says("f", nil, nil, numberType, num(0))
	for n := range 6 {
		taken(t, fmt.Sprint(n, " functions"), fns(again(n, fn)...))
	}
	notTaken(t, "6 functions", fns(again(6, fn)...))
	notTaken(t, "100 functions", fns(again(100, fn)...))
	if p, ok := impl.ProgRead(""); !ok || !sameThing(p, impl.Prog{}) {
		t.Error("no function at all:", ok, p)
	}
}

func TestLimitOfParameters(t *testing.T) {
	for _, param := range []impl.Param{has("p", numberType), lent("p", pairType(numberType, numberType))} {
		for n := range 5 {
			taken(t, fmt.Sprint(n, " parameters"), fns(says("f", again(n, param), nil, numberType, num(0))))
		}
		notTaken(t, "5 parameters", fns(says("f", again(5, param), nil, numberType, num(0))))
		notTaken(t, "5 parameters behind", fns(says("g", nil, nil, numberType, num(0)), gives("f", again(5, param), nil, numberType, place("p"))))
	}
}

func TestLimitOfArguments(t *testing.T) {
	for _, arg := range []impl.Arg{to("p", 0), of(two(3, num(1), num(2)))} {
		for n := range 5 {
			taken(t, fmt.Sprint(n, " arguments"), around(call("x", "g", again(n, arg)...)))
		}
		notTaken(t, "5 arguments", around(call("x", "g", again(5, arg)...)))
		notTaken(t, "5 arguments in a choice", around(choose(num(1), nil, stmts(call("x", "g", again(5, arg)...)))))
	}
}

func TestLimitOfStatements(t *testing.T) {
	s := let("x", num(1))
	in := func(n int) impl.Stmt { return choose(num(1), again(n, s), nil) }
	or := func(n int) impl.Stmt { return choose(num(1), nil, again(n, s)) }
	both := func(n int, m int) impl.Stmt { return choose(num(1), again(n, s), again(m, s)) }
	deep := func(n int) impl.Stmt {
		return choose(num(1), stmts(choose(num(2), nil, stmts(choose(num(3), again(n, s), nil)))), nil)
	}
	for _, row := range []struct {
		what string
		body func(n int) []impl.Stmt // n statements, all together
	}{
		{"in a row", func(n int) []impl.Stmt { return again(n, s) }},
		{"in Then", func(n int) []impl.Stmt { return stmts(in(n - 1)) }},
		{"in Else", func(n int) []impl.Stmt { return stmts(or(n - 1)) }},
		{"in both", func(n int) []impl.Stmt { return stmts(both(20, n-21)) }},
		{"in choices in choices", func(n int) []impl.Stmt { return stmts(deep(n - 3)) }},
		{"ahead of a choice", func(n int) []impl.Stmt { return append(again(n-6, s), in(5)) }},
		{"behind a choice", func(n int) []impl.Stmt { return append(stmts(or(5)), again(n-6, s)...) }},
		{"in choices", func(n int) []impl.Stmt { return stmts(in(12), or(12), both(6, n-33)) }},
		{"empty choices", func(n int) []impl.Stmt { return again(n, choose(num(1), nil, nil)) }},
		{"of each kind", func(n int) []impl.Stmt {
			return append(again(n-5, s), lend("a", place("b")), set(place("a"), num(1)), call("c", "d"), choose(num(1), nil, nil), pick("e", place("f"), place("g"), num(1)))
		}},
	} {
		taken(t, "40 "+row.what, around(row.body(40)...))
		notTaken(t, "41 "+row.what, around(row.body(41)...))
		notTaken(t, "42 "+row.what, around(row.body(42)...))
	}
	full := says("f", nil, again(40, s), numberType, num(0))
	taken(t, "40 in each of 5", fns(again(5, full)...))
	over := says("f", nil, again(41, s), numberType, num(0))
	notTaken(t, "41 in the last", fns(full, over))
	notTaken(t, "41 in the first", fns(over, full))
}

// longProg is a program of just so many bytes: all names are of 1 byte, or some of more.
func longProg(size int) impl.Prog {
	fn := says("f", nil, again(40, let("x", two(3, read("y", 0), two(3, num(1), num(2000))))), numberType, num(0))
	p := copyOf(fns(again(5, fn)...))
	for n := range 200 {
		s := &p.Fns[n/40].Body[n%40]
		more := min(size-len(textOf(p)), 5)
		s.Name += strings.Repeat("x", max(more, 0))
		more = min(size-len(textOf(p)), 5)
		s.Expr.Kids[0].Place.Name += strings.Repeat("y", max(more, 0))
	}
	return p
}

func TestLimitOfText(t *testing.T) {
	t.Parallel()
	for _, size := range []int{5000, 5999, 6000} {
		p := longProg(size)
		if len(textOf(p)) != size {
			t.Fatal("the test made", len(textOf(p)), "not", size)
		}
		taken(t, fmt.Sprint(size, " bytes"), p)
	}
	for _, size := range []int{6001, 6002, 6010} {
		p := longProg(size)
		if len(textOf(p)) != size {
			t.Fatal("the test made", len(textOf(p)), "not", size)
		}
		notTaken(t, fmt.Sprint(size, " bytes"), p)
		taken(t, "one function less", fns(p.Fns[1:]...))
	}
	wide := two(6, two(6, read("abcdef", 0, 0, 0, 0), read("abcdef", 1, 1, 1, 1)), two(6, read("abcdef", 0, 1, 0, 1), read("abcdef", 1, 0, 1, 0)))
	notTaken(t, "far more", fns(again(5, says("f", nil, again(40, call("abcdef", "abcdef", again(4, of(wide))...)), numberType, num(0)))...))
}

// withName is a program for each place where a name stands.
func withName(name string) map[string]impl.Prog {
	r := place(name)
	in := func(s impl.Stmt) impl.Prog { return around(choose(num(1), nil, stmts(s))) }
	return map[string]impl.Prog{
		"function":       fns(says(name, nil, nil, numberType, num(0))),
		"second one":     fns(says("f", nil, nil, numberType, num(0)), gives(name, nil, nil, numberType, place("p"))),
		"parameter":      fns(says("f", params(has(name, numberType)), nil, numberType, num(0))),
		"lent":           fns(says("f", params(has("p", numberType), lent(name, numberType)), nil, numberType, num(0))),
		"says":           fns(says("f", nil, nil, numberType, read(name))),
		"gives":          fns(gives("f", nil, nil, numberType, r)),
		"let":            around(let(name, num(1))),
		"lend":           around(lend(name, place("p"))),
		"lend place":     around(lend("x", r)),
		"set place":      around(set(r, num(1))),
		"call":           around(call(name, "f")),
		"call function":  around(call("x", name)),
		"call to":        around(call("x", "f", to("p"), to(name, 1))),
		"call of":        around(call("x", "f", of(num(1)), of(read(name)))),
		"pick":           around(pick(name, place("p"), place("q"), num(1))),
		"pick place":     around(pick("x", r, place("q"), num(1))),
		"pick other":     around(pick("x", place("p"), r, num(1))),
		"pick by":        around(pick("x", place("p"), place("q"), read(name))),
		"if":             around(choose(read(name), nil, nil)),
		"in a choice":    in(let(name, num(1))),
		"in an addition": around(let("x", two(3, num(1), two(6, read(name), num(2))))),
	}
}

func TestNames(t *testing.T) {
	for _, name := range []string{"a", "z", "m", "abcdef", "zzzzzz", "fn", "has", "lent", "let", "else", "end", "says", "to", "of", "i"} {
		for what, p := range withName(name) {
			taken(t, what+" "+name, p)
		}
	}
	for _, name := range []string{"", "abcdefg", strings.Repeat("a", 100000), "A", "aB", "Za", "a1", "1", "0", "`", "{", "@a", "a.", ".a", "a.0", "a,", "-", "+", "<", "(", " ", " a", "a ", "a b", "\n", "a\n", "\na", "a\tb", "\x00", "a\x00", "ä", "aä", "ſ", "\x80", "\xff"} {
		for what, p := range withName(name) {
			if got := impl.ProgWrite(p); got != "" {
				t.Errorf("%s %.50q: ProgWrite is %.300q", what, name, got)
			}
		}
	}
	for what, p := range withName("nnnnnn") {
		text := impl.ProgWrite(p)
		for _, name := range []string{"", "abcdefg", "A", "a1", "`", "{", "ä", "\xff", "a\x00", "a\t"} {
			refused(t, strings.ReplaceAll(text, "nnnnnn", name))
		}
		if !strings.Contains(text, "nnnnnn") {
			t.Error(what)
		}
	}
}

// withPath is a program for each place where a path stands.
func withPath(path ...int) map[string]impl.Prog {
	p := place("p", path...)
	e := read("p", path...)
	return map[string]impl.Prog{
		"says":       fns(says("f", nil, nil, numberType, e)),
		"gives":      fns(gives("f", nil, nil, numberType, p)),
		"lend":       around(lend("x", p)),
		"set":        around(set(p, num(1))),
		"to":         around(call("x", "f", to("p", path...))),
		"of":         around(call("x", "f", of(e))),
		"pick":       around(pick("x", p, place("q"), num(1))),
		"pick other": around(pick("x", place("q"), p, num(1))),
		"pick by":    around(pick("x", place("q"), place("q"), e)),
		"if":         around(choose(e, nil, nil)),
		"let":        around(let("x", two(5, two(6, num(1), e), num(2)))),
		"in Then":    around(choose(num(1), stmts(lend("x", p)), nil)),
	}
}

func TestPaths(t *testing.T) {
	for size := range 5 {
		for _, path := range pathsOf(size, []int{0, 1}) {
			for what, p := range withPath(path...) {
				taken(t, what, p)
			}
		}
	}
	wrong := pathsOf(5, []int{0, 1})
	wrong = append(wrong, make([]int, 6), make([]int, 500))
	for _, odd := range []int{-1, 2, 3, 10, 1 << 40, -1 << 63} {
		wrong = append(wrong, []int{odd}, []int{odd, 0}, []int{0, odd}, []int{1, 0, odd}, []int{0, 0, 0, odd}, []int{0, odd, 0, 0})
	}
	for _, path := range wrong {
		for what, p := range withPath(path...) {
			notTaken(t, fmt.Sprint(what, " ", path), p)
		}
	}
}

// withExpr is a program for each place where an expression stands.
func withExpr(e impl.Expr) map[string]impl.Prog {
	return map[string]impl.Prog{
		"says":       fns(says("f", nil, nil, numberType, e)),
		"let":        around(let("x", e)),
		"set":        around(set(place("p"), e)),
		"pick":       around(pick("x", place("p"), place("q"), e)),
		"if":         around(choose(e, nil, nil)),
		"first of":   around(call("x", "f", of(e))),
		"last of":    around(call("x", "f", to("p"), of(num(1)), of(num(2)), of(e))),
		"if in if":   around(choose(num(1), stmts(choose(e, nil, nil)), nil)),
		"let in if":  around(choose(num(1), nil, stmts(let("x", e)))),
		"second one": fns(says("f", nil, nil, numberType, num(0)), says("g", nil, nil, numberType, e)),
	}
}

// deepExpr is so deep on one side, or on both.
func deepExpr(deep int, kind int, side int) impl.Expr {
	if deep == 1 {
		return read("p", 1)
	}
	kid := deepExpr(deep-1, kind, side)
	switch side {
	case 0:
		return two(kind, kid, num(7))
	case 1:
		return two(kind, num(7), kid)
	}
	return two(kind, kid, kid)
}

func TestDeepExpressions(t *testing.T) {
	for kind := 3; kind <= 6; kind++ {
		for side := range 3 {
			for deep := 1; deep <= 4; deep++ {
				for what, p := range withExpr(deepExpr(deep, kind, side)) {
					taken(t, fmt.Sprint(what, " ", deep), p)
				}
			}
			for deep := 5; deep <= 7; deep++ {
				for what, p := range withExpr(deepExpr(deep, kind, side)) {
					notTaken(t, fmt.Sprint(what, " ", deep), p)
				}
			}
		}
	}
}

func TestNumbers(t *testing.T) {
	for _, n := range []int{0, 1, 9, 10, 99, 100, 1000, 9998, 9999} {
		for what, p := range withExpr(num(n)) {
			taken(t, fmt.Sprint(what, " ", n), p)
		}
		for what, p := range withExpr(two(4, num(5), two(5, num(n), num(6)))) {
			taken(t, fmt.Sprint(what, " ", n), p)
		}
	}
	for _, n := range []int{-1, -2, -9999, 10000, 10001, 100000, 1<<63 - 1, -1 << 63} {
		for what, p := range withExpr(num(n)) {
			notTaken(t, fmt.Sprint(what, " ", n), p)
		}
		for what, p := range withExpr(two(4, num(5), two(5, num(n), num(6)))) {
			notTaken(t, fmt.Sprint(what, " ", n), p)
		}
	}
}

// deepRow is statements that are so deep, in Then, or in Else, or in both by turns.
func deepRow(deep int, side int) []impl.Stmt {
	if deep == 1 {
		return stmts(let("x", num(1)))
	}
	kid := deepRow(deep-1, side)
	if side == 0 || side == 2 && deep%2 == 0 {
		return stmts(choose(num(1), kid, nil))
	}
	return stmts(set(place("y"), num(2)), choose(num(1), stmts(let("z", num(3))), kid))
}

func TestDeepStatements(t *testing.T) {
	for side := range 3 {
		for deep := 1; deep <= 4; deep++ {
			taken(t, fmt.Sprint(deep, " deep"), around(deepRow(deep, side)...))
		}
		for deep := 5; deep <= 8; deep++ {
			notTaken(t, fmt.Sprint(deep, " deep"), around(deepRow(deep, side)...))
		}
	}
	empty := choose(num(1), nil, nil)
	three := func(s impl.Stmt) impl.Prog {
		return around(choose(num(1), stmts(choose(num(2), nil, stmts(choose(num(3), stmts(s), nil)))), nil))
	}
	taken(t, "an empty choice 4 deep", three(empty))
	notTaken(t, "one in it", three(choose(num(1), nil, stmts(empty))))
	notTaken(t, "one in it", three(choose(num(1), stmts(empty), nil)))
	for n := range 8 {
		taken(t, "all choices beside each other", around(choose(num(n), deepRow(3, 0), deepRow(3, 1)), empty, choose(num(n), nil, deepRow(3, 2))))
	}
}

func TestTypesOfPrograms(t *testing.T) {
	with := func(x impl.Type) []impl.Prog {
		return []impl.Prog{
			fns(says("f", nil, nil, x, num(0))),
			fns(gives("f", nil, nil, x, place("p"))),
			fns(says("f", params(has("p", x)), nil, numberType, num(0))),
			fns(says("f", params(has("p", numberType), lent("q", x)), nil, numberType, num(0))),
			fns(says("g", nil, nil, numberType, num(0)), says("f", params(lent("q", x)), nil, x, num(0))),
		}
	}
	for _, x := range okTypes() {
		for _, p := range with(x) {
			taken(t, impl.TypeText(x), p)
		}
	}
	for _, x := range wrongTypes() {
		for _, p := range with(x) {
			if got := impl.ProgWrite(p); got != "" {
				t.Fatalf("ProgWrite is %q", got)
			}
		}
	}
	notTaken(t, "too deep", fns(says("f", nil, nil, deepType(5), num(0))))
	notTaken(t, "too deep", fns(gives("f", params(lent("p", deepType(5))), nil, numberType, place("p"))))
}

// A kind that is none, and something beside what a kind says.
func TestWrongKinds(t *testing.T) {
	for _, kind := range []int{-1, 0, 7, 8, 100, 1<<63 - 1, -1 << 63} {
		for _, e := range []impl.Expr{{Kind: kind}, {Kind: kind, Num: 1}, {Kind: kind, Place: place("p")}, two(kind, num(1), num(2)), two(3, num(1), two(kind, num(1), num(2))), two(6, impl.Expr{Kind: kind}, num(2))} {
			for what, p := range withExpr(e) {
				notTaken(t, fmt.Sprint(what, " kind ", kind), p)
			}
		}
		for _, s := range kindsOfStmts() {
			s.Kind = kind
			notTaken(t, fmt.Sprint("kind ", kind), around(s))
			notTaken(t, fmt.Sprint("kind ", kind), around(choose(num(1), nil, stmts(s))))
		}
		notTaken(t, fmt.Sprint("kind ", kind), around(impl.Stmt{Kind: kind}))
	}
}

func kindsOfStmts() []impl.Stmt {
	return stmts(let("a", num(1)), lend("b", place("p", 0)), set(place("p", 1), num(2)), call("c", "f", to("p"), of(num(3))), choose(num(4), stmts(let("d", num(5))), stmts(let("e", num(6)))), pick("g", place("p", 0), place("p", 1), num(7)))
}

func TestWrongExpressions(t *testing.T) {
	one, some := num(1), place("p")
	wrong := []impl.Expr{
		{},
		{Num: 1},
		{Kind: 1, Num: 1, Place: some},
		{Kind: 1, Num: 1, Place: impl.Place{Path: []int{0}}},
		{Kind: 1, Num: 1, Kids: []impl.Expr{{}}},
		{Kind: 1, Num: 1, Kids: []impl.Expr{one, one}},
		{Kind: 2},
		{Kind: 2, Place: impl.Place{Path: []int{0}}},
		{Kind: 2, Place: some, Num: 1},
		{Kind: 2, Place: some, Num: -1},
		{Kind: 2, Place: some, Kids: []impl.Expr{one}},
		{Kind: 2, Place: some, Kids: []impl.Expr{one, one}},
	}
	for kind := 3; kind <= 6; kind++ {
		wrong = append(wrong,
			impl.Expr{Kind: kind},
			impl.Expr{Kind: kind, Kids: []impl.Expr{one}},
			impl.Expr{Kind: kind, Kids: []impl.Expr{one, one, one}},
			impl.Expr{Kind: kind, Kids: []impl.Expr{one, {}}},
			impl.Expr{Kind: kind, Kids: []impl.Expr{{}, one}},
			impl.Expr{Kind: kind, Num: 1, Kids: []impl.Expr{one, one}},
			impl.Expr{Kind: kind, Place: some, Kids: []impl.Expr{one, one}},
			impl.Expr{Kind: kind, Place: impl.Place{Path: []int{1}}, Kids: []impl.Expr{one, one}},
		)
	}
	for n, e := range wrong {
		for what, p := range withExpr(e) {
			notTaken(t, fmt.Sprint(what, " ", n), p)
		}
		for what, p := range withExpr(two(6, one, e)) {
			notTaken(t, fmt.Sprint(what, " ", n), p)
		}
	}
}

// What a kind of statement says: n Name, p Place, o Other, e Expr, f Fn, a Args, t Then, s Else.
var saidByKind = []string{"ne", "np", "pe", "nfa", "ets", "npoe"}

func TestWrongStatements(t *testing.T) {
	one, some := num(1), place("p")
	for n, s := range kindsOfStmts() {
		taken(t, "as it is", around(s))
		beside := map[string]func(s *impl.Stmt){
			"n": func(s *impl.Stmt) { s.Name = "x" },
			"p": func(s *impl.Stmt) { s.Place = some },
			"o": func(s *impl.Stmt) { s.Other = some },
			"e": func(s *impl.Stmt) { s.Expr = one },
			"f": func(s *impl.Stmt) { s.Fn = "f" },
			"a": func(s *impl.Stmt) { s.Args = []impl.Arg{to("p")} },
			"t": func(s *impl.Stmt) { s.Then = stmts(let("x", one)) },
			"s": func(s *impl.Stmt) { s.Else = stmts(let("x", one)) },
		}
		hardly := map[string]func(s *impl.Stmt){
			"p": func(s *impl.Stmt) { s.Place = impl.Place{Path: []int{0}} },
			"o": func(s *impl.Stmt) { s.Other = impl.Place{Path: []int{0}} },
			"e": func(s *impl.Stmt) { s.Expr = impl.Expr{Num: 1} },
			"a": func(s *impl.Stmt) { s.Args = make([]impl.Arg, 1) },
			"t": func(s *impl.Stmt) { s.Then = make([]impl.Stmt, 1) },
			"s": func(s *impl.Stmt) { s.Else = make([]impl.Stmt, 1) },
		}
		for _, list := range []map[string]func(s *impl.Stmt){beside, hardly} {
			for what, put := range list {
				other := s
				put(&other)
				if !strings.Contains(saidByKind[n], what) {
					notTaken(t, fmt.Sprint("kind ", s.Kind, " with ", what), around(other))
					notTaken(t, fmt.Sprint("kind ", s.Kind, " with ", what), around(choose(one, stmts(other), nil)))
				}
			}
		}
		lacks := map[string]func(s *impl.Stmt){
			"n": func(s *impl.Stmt) { s.Name = "" },
			"p": func(s *impl.Stmt) { s.Place = impl.Place{} },
			"o": func(s *impl.Stmt) { s.Other = impl.Place{} },
			"e": func(s *impl.Stmt) { s.Expr = impl.Expr{} },
			"f": func(s *impl.Stmt) { s.Fn = "" },
		}
		for what, put := range lacks {
			other := s
			put(&other)
			if strings.Contains(saidByKind[n], what) {
				notTaken(t, fmt.Sprint("kind ", s.Kind, " without ", what), around(other))
			}
		}
	}
}

func TestWrongArguments(t *testing.T) {
	one, some := num(1), place("p")
	for n, arg := range []impl.Arg{
		{},
		{Lent: true},
		{Place: some},
		{Lent: true, Expr: one},
		{Place: some, Expr: one},
		{Lent: true, Place: some, Expr: one},
		{Lent: true, Place: some, Expr: impl.Expr{Kind: 1}},
		{Lent: true, Place: some, Expr: impl.Expr{Num: 1}},
		{Lent: true, Place: some, Expr: impl.Expr{Place: some}},
		{Lent: true, Place: some, Expr: impl.Expr{Place: impl.Place{Path: []int{0}}}},
		{Lent: true, Place: some, Expr: impl.Expr{Kids: make([]impl.Expr, 1)}},
		{Place: impl.Place{Path: []int{0}}, Expr: one},
	} {
		notTaken(t, fmt.Sprint(n), around(call("x", "f", arg)))
		notTaken(t, fmt.Sprint(n), around(call("x", "f", to("p"), arg)))
		notTaken(t, fmt.Sprint(n), around(call("x", "f", arg, of(one))))
	}
}

func TestWrongFunctions(t *testing.T) {
	good := says("f", nil, nil, numberType, num(0))
	giving := gives("f", nil, nil, numberType, place("p"))
	with := func(fn impl.Fn, change func(fn *impl.Fn)) impl.Fn {
		change(&fn)
		return fn
	}
	for n, fn := range []impl.Fn{
		{},
		with(good, func(fn *impl.Fn) { fn.Lent = true }),
		with(good, func(fn *impl.Fn) { fn.Gives = place("p") }),
		with(good, func(fn *impl.Fn) { fn.Gives = impl.Place{Path: []int{0}} }),
		with(good, func(fn *impl.Fn) { fn.Says = impl.Expr{} }),
		with(good, func(fn *impl.Fn) { fn.Lent, fn.Gives = true, place("p") }),
		with(giving, func(fn *impl.Fn) { fn.Lent = false }),
		with(giving, func(fn *impl.Fn) { fn.Says = num(0) }),
		with(giving, func(fn *impl.Fn) { fn.Says = impl.Expr{Num: 1} }),
		with(giving, func(fn *impl.Fn) { fn.Gives = impl.Place{} }),
		with(giving, func(fn *impl.Fn) { fn.Lent, fn.Says = false, num(0) }),
		with(good, func(fn *impl.Fn) { fn.Params = make([]impl.Param, 1) }),
		with(good, func(fn *impl.Fn) { fn.Body = make([]impl.Stmt, 1) }),
	} {
		notTaken(t, fmt.Sprint(n), fns(fn))
		notTaken(t, fmt.Sprint(n), fns(good, fn))
		notTaken(t, fmt.Sprint(n), fns(fn, giving))
	}
}
