package tests

import (
	"slices"
	"testing"

	"loop.example/handfast/impl"
)

// eachBehind tells of each function of a program, and of each number of its statements.
func eachBehind(p impl.Prog, tell func(at int, n int)) {
	for at, fn := range p.Fns {
		for n := range len(fn.Body) + 1 {
			tell(at, n)
		}
	}
}

// cut is a program up to a function, of which it has but so many statements, and these behind them; it says a number then.
func cut(p impl.Prog, at int, n int, more ...impl.Stmt) impl.Prog {
	fn := p.Fns[at]
	body := append(slices.Clone(fn.Body[:n]), more...)
	return fns(append(slices.Clone(p.Fns[:at]), says(fn.Name, fn.Params, body, numberType, num(0)))...)
}

// roomFor says whether one statement more is in form.
func roomFor(p impl.Prog, at int, n int) bool {
	return isLines(textOf(cut(p, at, n, let("zz", num(1)))))
}

func mustLive(t *testing.T, p impl.Prog, at int, n int, want ...string) {
	t.Helper()
	if got := impl.CheckLive(p, at, n); !slices.Equal(got, want) {
		t.Errorf("CheckLive %d behind %d is %q, not %q, of\n%s", at, n, got, want, textOf(p))
	}
}

// What is told of programs, fine or not, is what the rules say that are told in another way.
func TestAnyProgramIsChecked(t *testing.T) {
	t.Parallel()
	count := map[int]int{}
	for _, seldom := range []int{5, 20, 100} {
		for _, p := range likelyProgs(1200, seldom) {
			code, at := faultOf(p)
			count[code]++
			mustCheck(t, p, code, at)
			if code == 0 {
				eachBehind(p, func(at int, n int) { mustLive(t, p, at, n, liveOf(p, at, n)...) })
			}
		}
	}
	for _, code := range []int{0, 2, 3, 4, 5} {
		if count[code] < 20 {
			t.Error("the test made too few programs of code", code, count)
		}
	}
	for _, p := range sampleProgs() {
		code, at := faultOf(p)
		mustCheck(t, p, code, at)
	}
}

// One thing of a program that is fine is changed at a time.
func TestOneThingChangedIsChecked(t *testing.T) {
	t.Parallel()
	count := map[int]int{}
	for _, p := range fineProgs(t, 12) {
		p = copyOf(p)
		changes(&p, func() {
			code, at := faultOf(p)
			count[code]++
			mustCheck(t, p, code, at)
			if code == 0 && len(p.Fns) > 0 {
				last := len(p.Fns) - 1
				n := len(p.Fns[last].Body)
				mustLive(t, p, last, n, liveOf(p, last, n)...)
			}
		})
	}
	for code := range 6 {
		if count[code] < 10 {
			t.Error("the test made too few programs of code", code, count)
		}
	}
}

// P19: without its last function a program that is fine is fine.
func TestP19WithoutTheLastFunction(t *testing.T) {
	for _, p := range fineProgs(t, 300) {
		for n := range len(p.Fns) + 1 {
			mustCheck(t, fns(p.Fns[:n]...), 0, 0)
		}
	}
}

// P20: one more function that only says a number changes nothing of what is told, fine or not.
func TestP20OneMoreFunction(t *testing.T) {
	more := says("zz", nil, nil, numberType, num(7))
	for _, p := range append(fineProgs(t, 200), likelyProgs(400, 10)...) {
		if len(p.Fns) == 5 {
			continue
		}
		code, at := impl.CheckOf(p)
		mustCheck(t, fns(append(slices.Clone(p.Fns), more)...), code, at)
	}
	mustCheck(t, fns(more), 0, 0)
}

// P21: a function that stands twice is CheckName, at its second place.
func TestP21FunctionsThatStandTwice(t *testing.T) {
	for _, p := range fineProgs(t, 300) {
		if len(p.Fns) == 5 {
			continue
		}
		for n := range p.Fns {
			mustCheck(t, fns(append(slices.Clone(p.Fns), p.Fns[n])...), 2, len(p.Fns))
			mustCheck(t, fns(slices.Insert(slices.Clone(p.Fns), n+1, p.Fns[n])...), 2, n+1)
		}
	}
}

// P22: a function that is fine, cut anywhere, is fine, if it says a number then.
func TestP22CutAnywhere(t *testing.T) {
	for _, p := range fineProgs(t, 300) {
		eachBehind(p, func(at int, n int) { mustCheck(t, cut(p, at, n), 0, 0) })
	}
}

// P23: just the names that are live can be lent; others that were given have ended.
func TestP23WhatCanBeLent(t *testing.T) {
	ended := 0
	for _, p := range fineProgs(t, 300) {
		eachBehind(p, func(at int, n int) {
			if !roomFor(p, at, n) {
				return
			}
			live := impl.CheckLive(p, at, n)
			for _, name := range givenNames(p.Fns[at], n) {
				if slices.Contains(live, name) {
					mustCheck(t, cut(p, at, n, lend("zz", place(name))), 0, 0)
				} else {
					ended++
					mustCheck(t, cut(p, at, n, lend("zz", place(name))), 4, at)
				}
			}
		})
	}
	if ended < 100 {
		t.Error("the test made too few names that ended:", ended)
	}
}

// givenNames is the names that parameters gave, and statements that are in no others.
func givenNames(fn impl.Fn, n int) []string {
	var list []string
	for _, param := range fn.Params {
		list = append(list, param.Name)
	}
	for _, s := range fn.Body[:n] {
		if s.Name != "" {
			list = append(list, s.Name)
		}
	}
	return list
}

// P24: a new name for a number is live, and makes nothing else end.
func TestP24ANewNameForANumber(t *testing.T) {
	for _, p := range fineProgs(t, 300) {
		eachBehind(p, func(at int, n int) {
			if !roomFor(p, at, n) {
				return
			}
			more := cut(p, at, n, let("zz", num(3)))
			mustCheck(t, more, 0, 0)
			mustLive(t, more, at, n+1, append(impl.CheckLive(p, at, n), "zz")...)
		})
	}
}

// P25: names that are live were given, each once, in this order.
func TestP25LiveNamesWereGiven(t *testing.T) {
	for _, p := range fineProgs(t, 300) {
		eachBehind(p, func(at int, n int) {
			given := givenNames(p.Fns[at], n)
			for _, name := range impl.CheckLive(p, at, n) {
				place := slices.Index(given, name)
				if place < 0 {
					t.Fatalf("%q is live, and was not given, or twice, or out of order, behind %d of %d in\n%s", name, n, at, textOf(p))
				}
				given = given[place+1:]
			}
		})
	}
}

// P26: what is CheckForm has no text, and what has a text is not CheckForm.
func TestP26WhatIsNotInForm(t *testing.T) {
	bad := 0
	for _, s := range samples() {
		p := copyOf(s.prog)
		changes(&p, func() {
			code, at := impl.CheckOf(p)
			if code == 1 {
				bad++
			}
			if code == 1 && (at != 0 || impl.ProgWrite(p) != "") || code != 1 && impl.ProgWrite(p) == "" && len(p.Fns) > 0 {
				t.Fatalf("%d in %d, and its text is %q", code, at, impl.ProgWrite(p))
			}
		})
	}
	if bad < 1000 {
		t.Error("the test made too few programs that are not in form:", bad)
	}
}

func TestCheckLiveExamples(t *testing.T) {
	text := ahead + head + "lend r p.0\nlet x 1\npick s r q.0 @n\nif @x\nlend a p.1\nset a 1\nelse\nlet b 1\nend\nset q.0 2\nlend u p\ncall v out to u.0 to q.1 of 1\nset u.0 3\nif @n\nelse\nset p.1 1\nend\nset x 2\n"
	want := [][]string{
		{"p", "q", "n", "m"},
		{"p", "q", "n", "m", "r"},
		{"p", "q", "n", "m", "r", "x"},
		{"p", "q", "n", "m", "r", "x", "s"},
		{"p", "q", "n", "m", "r", "x", "s"},
		{"p", "q", "n", "m", "r", "x"},
		{"p", "q", "n", "m", "x", "u"},
		{"p", "q", "n", "m", "x", "u", "v"},
		{"p", "q", "n", "m", "x", "u"},
		{"p", "q", "n", "m", "x"},
		{"p", "q", "n", "m", "x"},
	}
	p := mustRead(t, text+"says i 0\n")
	for n, names := range want {
		mustLive(t, p, 4, n, names...)
	}
	mustLive(t, p, 4, 11)
	mustLive(t, p, 4, -1)
	// What is said, or given out, is behind all of its statements.
	mustLive(t, mustRead(t, "fn f\nlent p i\nlend r p\nsays i @p\n"), 0, 1, "p", "r")
	mustLive(t, mustRead(t, "fn f\nlent p i\nlend r p\ngives i p\n"), 0, 1, "p", "r")
	mustLive(t, p, 0, 0)
	mustLive(t, p, 1, 0, "a", "b")
	mustLive(t, p, 3, 0, "a", "b", "n")
	mustLive(t, p, 3, 1, "a", "b", "n", "c")
	// Names are told as they were given, whatever they are.
	mustLive(t, mustRead(t, "fn f\nhas z i\nlent a i\nlet y 1\nlet b 2\nlend x a\nsays i 0\n"), 0, 3, "z", "a", "y", "b", "x")
}

func TestCheckLiveOfWhatIsNotThere(t *testing.T) {
	largest := int(^uint(0) >> 1)
	for _, p := range fineProgs(t, 40) {
		for _, at := range []int{-largest - 1, -1, len(p.Fns), len(p.Fns) + 1, largest} {
			for _, n := range []int{-largest - 1, -1, 0, 1, largest} {
				mustLive(t, p, at, n)
			}
		}
		for at, fn := range p.Fns {
			for _, n := range []int{-largest - 1, -1, len(fn.Body) + 1, len(fn.Body) + 2, largest} {
				mustLive(t, p, at, n)
			}
		}
	}
	mustLive(t, impl.Prog{}, 0, 0)
	// Of a program that is not fine nothing is told, also of functions, and of statements, that are.
	for _, text := range []string{
		"fn f\nhas n i\nsays i 0\nfn g\nsays i @x\n",
		"fn f\nhas n i\nlet x 1\nset x , 1 2\nsays i 0\n",
		"fn f\nlent p i\nlend r p\nset p 1\nset r 1\nsays i 0\n",
		"fn f\nhas n i\ngives i n\n",
		"fn f\nhas n i\nsays i 0\nfn f\nhas n i\nsays i 0\n",
	} {
		p := mustRead(t, text)
		for at := range 3 {
			for n := range 3 {
				mustLive(t, p, at, n)
			}
		}
	}
}
