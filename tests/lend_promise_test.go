package tests

import (
	"slices"
	"testing"

	"loop.example/handfast/impl"
)

// lendNames is the names of what is lent.
func lendNames(list []impl.Lend) []string {
	var names []string
	for _, x := range list {
		names = append(names, x.Name)
	}
	return names
}

// What is told of programs that are fine is what the rules say that are told in another way.
func TestAnyLending(t *testing.T) {
	t.Parallel()
	lends, ends := 0, 0
	for _, p := range fineProgs(t, 500) {
		eachBehind(p, func(at int, n int) {
			want := lendsOf(p, at, n)
			lends += len(want)
			if got := impl.LendOf(p, at, n); !sameThing(got, want) {
				t.Fatalf("LendOf %d behind %d is %q, not %q, of\n%s", at, n, lendsText(got), lendsText(want), textOf(p))
			}
		})
	}
	for _, p := range fineProgs(t, 60) {
		eachPlace(p, func(at int, n int, place impl.Place) {
			want := endsOf(p, at, n, place)
			ends += len(want)
			mustEnds(t, p, at, n, place, want...)
		})
	}
	if lends < 1000 || ends < 1000 {
		t.Error("the test made too little that is lent:", lends, ends)
	}
}

// P27: two places meet either way, or neither; each that is in form meets itself, and its parts.
func TestP27PlacesThatMeet(t *testing.T) {
	list := formPlaces()
	for _, a := range list {
		if !impl.LendMeet(a, a) {
			t.Errorf("%s does not meet itself", placeText(a))
		}
		for _, b := range list {
			if impl.LendMeet(a, b) != placesMeet(a, b) || impl.LendMeet(b, a) != placesMeet(a, b) {
				t.Errorf("%s and %s", placeText(a), placeText(b))
			}
		}
		for step := range 2 {
			part := impl.Place{Name: a.Name, Path: append(slices.Clone(a.Path), step)}
			inForm := len(a.Path) < 4
			if impl.LendMeet(a, part) != inForm || impl.LendMeet(part, a) != inForm {
				t.Errorf("%s and its part %s", placeText(a), placeText(part))
			}
		}
	}
}

// P28: places that are lent at once, to two names, or to one, do not meet.
func TestP28PlacesThatAreLentAtOnce(t *testing.T) {
	t.Parallel()
	count := 0
	for _, p := range fineProgs(t, 300) {
		eachBehind(p, func(at int, n int) {
			var all []impl.Place
			for _, x := range impl.LendOf(p, at, n) {
				for _, place := range x.Places {
					if slices.ContainsFunc(all, func(other impl.Place) bool { return impl.LendMeet(place, other) }) {
						t.Fatalf("%s is lent twice behind %d of %d in\n%s", placeText(place), n, at, textOf(p))
					}
					count += len(all)
					all = append(all, place)
				}
			}
		})
	}
	if count < 1000 {
		t.Error("the test made too few places that are lent at once:", count)
	}
}

// P29: what is lent is live, and so is what it is lent from, which was given ahead of it.
func TestP29WhatIsLentIsLive(t *testing.T) {
	t.Parallel()
	for _, p := range fineProgs(t, 300) {
		eachBehind(p, func(at int, n int) {
			live := impl.CheckLive(p, at, n)
			for _, x := range impl.LendOf(p, at, n) {
				own := slices.Index(live, x.Name)
				if own < 0 || len(x.Places) == 0 {
					t.Fatalf("%q is lent, and not live, or from nothing, behind %d of %d in\n%s", x.Name, n, at, textOf(p))
				}
				for _, place := range x.Places {
					if from := slices.Index(live, place.Name); from < 0 || from >= own {
						t.Fatalf("%q is lent from %s, which is not live, behind %d of %d in\n%s", x.Name, placeText(place), n, at, textOf(p))
					}
				}
			}
		})
	}
}

// P30: what ends when a place is used was lent; each is told once.
func TestP30WhatEndsWasLent(t *testing.T) {
	t.Parallel()
	count := 0
	for _, p := range fineProgs(t, 40) {
		eachBehind(p, func(at int, n int) {
			lent := lendNames(impl.LendOf(p, at, n))
			for _, place := range placesOf(p.Fns[at]) {
				rest := lent
				for _, name := range impl.LendEnds(p, at, n, place) {
					own := slices.Index(rest, name)
					if own < 0 {
						t.Fatalf("%q ends, and was not lent, or is told twice, or too late, behind %d of %d by %s in\n%s", name, n, at, placeText(place), textOf(p))
					}
					// Those that were given last are told first.
					rest = rest[:own]
					count++
				}
			}
		})
	}
	if count < 500 {
		t.Error("the test made too little that ends:", count)
	}
}

// P31: what is lent from what ends ends, too, and first.
func TestP31WhatIsLentFromWhatEnds(t *testing.T) {
	t.Parallel()
	count := 0
	for _, p := range fineProgs(t, 40) {
		eachBehind(p, func(at int, n int) {
			lent := impl.LendOf(p, at, n)
			for _, place := range placesOf(p.Fns[at]) {
				ends := impl.LendEnds(p, at, n, place)
				count += len(ends)
				if x, ok := notAhead(lent, ends); !ok {
					t.Fatalf("%q does not end ahead of what it is lent from, which is in %q, behind %d of %d by %s in\n%s", x.Name, ends, n, at, placeText(place), textOf(p))
				}
			}
		})
	}
	if count < 500 {
		t.Error("the test made too little that ends:", count)
	}
	p := mustRead(t, "fn f\nlent p (i,i)\nlend r p\nlend s r.0\nlend u r.1\nlend w s\nsays i 0\n")
	mustEnds(t, p, 0, 4, place("p", 1), "w", "u", "s", "r")
	mustEnds(t, p, 0, 4, place("r", 0), "w", "s")
}

// notAhead is one that is lent from what ends, and does not end ahead of that, and false; true, if there is none.
func notAhead(lent []impl.Lend, ends []string) (impl.Lend, bool) {
	for _, x := range lent {
		own := slices.Index(ends, x.Name)
		for _, from := range x.Places {
			if late := slices.Index(ends, from.Name); late >= 0 && (own < 0 || own >= late) {
				return x, false
			}
		}
	}
	return impl.Lend{}, true
}

// P32: when a place is lent just what LendEnds tells ends, and all else that was lent stays so; where it cannot be lent nothing ends.
func TestP32WhenAPlaceIsLent(t *testing.T) {
	t.Parallel()
	count := map[bool]int{}
	for _, p := range fineProgs(t, 40) {
		eachBehind(p, func(at int, n int) {
			if !roomFor(p, at, n) {
				return
			}
			lent := impl.LendOf(p, at, n)
			for _, place := range placesOf(p.Fns[at]) {
				more := cut(p, at, n, lend("zz", place))
				ends := impl.LendEnds(p, at, n, place)
				code, _ := impl.CheckOf(more)
				count[code == 0]++
				if code != 0 {
					mustEnds(t, p, at, n, place)
					continue
				}
				want := slices.DeleteFunc(slices.Clone(lent), func(x impl.Lend) bool { return slices.Contains(ends, x.Name) })
				mustLends(t, more, at, n+1, lendsText(append(want, impl.Lend{Name: "zz", Places: []impl.Place{place}})))
			}
		})
	}
	if count[true] < 1000 || count[false] < 1000 {
		t.Error("the test made too few places that can be lent, or that cannot:", count)
	}
}

// P33: a new name for a number is lent from nothing, and nothing from it; all else is lent, and ends, as it did.
func TestP33ANewNameForANumber(t *testing.T) {
	t.Parallel()
	for _, p := range fineProgs(t, 40) {
		eachBehind(p, func(at int, n int) {
			if !roomFor(p, at, n) {
				return
			}
			more := cut(p, at, n, let("zz", num(3)))
			mustLends(t, more, at, n+1, lendsText(impl.LendOf(p, at, n)))
			for _, place := range placesOf(p.Fns[at]) {
				mustEnds(t, more, at, n+1, place, impl.LendEnds(p, at, n, place)...)
			}
		})
	}
}

// P34: a parameter never ends, whatever is used, and is told as lent by no statement.
func TestP34ParametersNeverEnd(t *testing.T) {
	t.Parallel()
	for _, p := range fineProgs(t, 40) {
		names := make([][]string, len(p.Fns))
		for at, fn := range p.Fns {
			names[at] = givenNames(fn, 0)
		}
		isParam := func(at int) func(string) bool {
			return func(name string) bool { return slices.Contains(names[at], name) }
		}
		eachPlace(p, func(at int, n int, place impl.Place) {
			if slices.ContainsFunc(impl.LendEnds(p, at, n, place), isParam(at)) {
				t.Fatalf("a parameter ends behind %d of %d by %s in\n%s", n, at, placeText(place), textOf(p))
			}
		})
		eachBehind(p, func(at int, n int) {
			if slices.ContainsFunc(lendNames(impl.LendOf(p, at, n)), isParam(at)) {
				t.Fatalf("a parameter is told as lent behind %d of %d in\n%s", n, at, textOf(p))
			}
			if live := impl.CheckLive(p, at, n); !slices.Equal(live[:len(names[at])], names[at]) {
				t.Fatalf("a parameter has ended behind %d of %d in\n%s", n, at, textOf(p))
			}
		})
	}
}

// P35: what is lent is told in the order in which live names are: it is those that statements gave as lent.
func TestP35TheOrderOfWhatIsLent(t *testing.T) {
	count := 0
	for _, p := range fineProgs(t, 300) {
		eachBehind(p, func(at int, n int) {
			lends := givenAsLent(p, at, n)
			want := slices.DeleteFunc(impl.CheckLive(p, at, n), func(name string) bool { return !slices.Contains(lends, name) })
			if len(want) > 1 {
				count++
			}
			if got := lendNames(impl.LendOf(p, at, n)); !slices.Equal(got, want) {
				t.Fatalf("%q are lent, not %q, behind %d of %d in\n%s", got, want, n, at, textOf(p))
			}
		})
	}
	if count < 200 {
		t.Error("the test made too little that is lent at once:", count)
	}
}

// givenAsLent is the names that statements gave, which are in no others, by lending.
func givenAsLent(p impl.Prog, at int, n int) []string {
	var list []string
	for _, s := range p.Fns[at].Body[:n] {
		isOut := slices.ContainsFunc(p.Fns[:at], func(fn impl.Fn) bool { return fn.Lent && fn.Name == s.Fn })
		if s.Kind == 2 || s.Kind == 6 || s.Kind == 4 && isOut {
			list = append(list, s.Name)
		}
	}
	return list
}
