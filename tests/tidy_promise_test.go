package tests

import (
	"math/rand"
	"slices"
	"strconv"
	"testing"

	"loop.example/handfast/impl"
)

// P83: it does not matter what names are bound: tidied functions say the same, and fail alike.
func TestP83TidiedFunctionsSayTheSame(t *testing.T) {
	t.Parallel()
	count := counter{}
	left := 0
	tell := func(list []impl.Pure, at int, args []impl.Val) {
		tidied := impl.TidyOf(list)
		left += impl.TidySize(list) - impl.TidySize(tidied)
		mustSay(t, tidied, list[at].Name, args, count.purely(t, list, list[at].Name, args))
		// One that is tidied calls those as they were, and the other way.
		for n := range list {
			mixed := slices.Clone(list)
			mixed[n] = tidied[n]
			mustSay(t, mixed, list[at].Name, args, pureWords(list, list[at].Name, args))
		}
	}
	eachPure(t, 600, tell)
	eachMoved(t, 400, tell)
	count.enough(t, 3000, 500)
	if left < 5000 {
		t.Error("the test made too few bindings that are left out:", left)
	}
}

// withNames is functions with other names, which are told for each of a text of few.
func withNames(list []impl.Pure, as func(name string) string) []impl.Pure {
	list = copyOf(list)
	row := func(names []string) {
		for n := range names {
			names[n] = as(names[n])
		}
	}
	for n := range list {
		row(list[n].Params)
		eachIn(&list[n].Body, func(b *impl.Body) {
			for n := range b.Binds {
				row(b.Binds[n].Names)
			}
		})
		inBody(&list[n].Body, func(name string) impl.Term { return nameTerm(as(name)) })
	}
	return list
}

// P83: whatever names are bound, functions are tidied as the same.
func TestP83OtherNames(t *testing.T) {
	t.Parallel()
	r := rand.New(rand.NewSource(83))
	for n, list := range tidyLists(t, 200) {
		want := impl.TidyOf(list)
		others := map[string]string{}
		for _, way := range []func(name string) string{
			func(name string) string { return "U" + strconv.Itoa(len(name)) + name[max(0, len(name)-8):] },
			func(name string) string {
				if others[name] == "" {
					others[name] = "U" + strconv.Itoa(len(others)+1)
				}
				return others[name]
			},
		} {
			other := withNames(list, way)
			if !isPures(other) {
				continue // two names became one
			}
			if got := impl.TidyOf(other); !sameThing(got, want) {
				t.Fatalf("%d: with other names it is tidied as\n%sof\n%s", n, impl.PureText(got), puresText(other))
			}
		}
		// New names in any order.
		list = impl.TidyOf(list)
		turn := r.Perm(2000)
		other := withNames(list, func(name string) string {
			at, _ := strconv.Atoi(name[1:])
			return "U" + strconv.Itoa(turn[at-1]+1)
		})
		if got := impl.TidyOf(other); !sameThing(got, want) {
			t.Fatalf("%d: with new names in another order it is tidied as\n%sof\n%s", n, impl.PureText(got), puresText(other))
		}
	}
}

// P84: tidied told functions say the same as the program does, also what comes back.
func TestP84TidiedToldFunctionsSayTheSame(t *testing.T) {
	t.Parallel()
	count := counter{}
	eachTold(t, 800, func(p impl.Prog, list []impl.Pure, at int, args []impl.Val, through []impl.Val) {
		mustRunTold(t, impl.TidyOf(list), p.Fns[at], args, through, count.run(t, p, at, args, through))
	})
	for _, p := range fullProgs(10) {
		mustRunAsTold(t, p, impl.TidyOf(mustTold(t, p)), 8)
	}
	count.enough(t, 3000, 300)
}

// P85: tidied functions are ok, as many, of the same names, given and saying as much.
func TestP85TidiedFunctionsAreOk(t *testing.T) {
	t.Parallel()
	for _, list := range tidyLists(t, 300) {
		tidied := impl.TidyOf(list)
		if !impl.PureOk(tidied) || !isPures(tidied) || len(tidied) != len(list) {
			t.Fatalf("tidied it is not ok, or not as many: %+v", tidied)
		}
		for n, fn := range list {
			other := tidied[n]
			if other.Name != fn.Name || len(other.Params) != len(fn.Params) || len(other.Body.Says) != len(fn.Body.Says) {
				t.Fatalf("tidied as\n%sof\n%s", puresText(tidied), puresText(list))
			}
		}
	}
}

// P86: to tidy makes nothing longer: not all functions, none of them, no body, and no term.
func TestP86NothingIsLonger(t *testing.T) {
	t.Parallel()
	shorter := 0
	for _, list := range tidyLists(t, 300) {
		tidied := impl.TidyOf(list)
		if impl.TidySize(tidied) > impl.TidySize(list) {
			t.Fatalf("there are %d bindings, not %d, tidied as\n%s", impl.TidySize(tidied), impl.TidySize(list), puresText(tidied))
		}
		for n := range list {
			was, is := bodySizes(list[n].Body), bodySizes(tidied[n].Body)
			if len(was) != len(is) {
				t.Fatalf("there are %d bodies, not %d, tidied as\n%sof\n%s", len(is), len(was), puresText(tidied), puresText(list))
			}
			for at := range was {
				if is[at] > was[at] {
					t.Fatalf("a body is longer, tidied as\n%sof\n%s", puresText(tidied), puresText(list))
				}
				shorter += was[at] - is[at]
			}
		}
	}
	if shorter < 5000 {
		t.Error("the test made too few bindings that are left out:", shorter)
	}
}

// bodySizes is how many bindings each body of one has by itself.
func bodySizes(body impl.Body) []int {
	var list []int
	eachIn(&body, func(b *impl.Body) { list = append(list, len(b.Binds)) })
	return list
}

// P87: tidied twice is tidied once.
func TestP87TidiedTwice(t *testing.T) {
	t.Parallel()
	for _, list := range tidyLists(t, 400) {
		once := impl.TidyOf(list)
		if twice := impl.TidyOf(once); !sameThing(once, twice) {
			t.Fatalf("tidied twice it is\n%snot\n%s", impl.PureText(twice), impl.PureText(once))
		}
		if impl.TidySize(impl.TidyOf(once)) != impl.TidySize(once) {
			t.Fatal("tidied twice there are others as many")
		}
	}
}

// P88: no binding is left that only gives another name, or a number one; and no other is left out.
func TestP88NoBindingIsLeftThatOnlyGivesAName(t *testing.T) {
	t.Parallel()
	left := 0
	for _, list := range tidyLists(t, 400) {
		for _, fn := range impl.TidyOf(list) {
			eachIn(&fn.Body, func(b *impl.Body) {
				left += len(b.Binds)
				if at := slices.IndexFunc(b.Binds, isPlain); at >= 0 {
					t.Fatalf("binding %d is left of\n%s", at, puresText(list))
				}
			})
		}
	}
	if left < 5000 {
		t.Error("the test made too few bindings that are left:", left)
	}
	for _, x := range terms(twoTerm(3, nameTerm("a"), numTerm(0)), atTerm(nameTerm("a")), atTerm(numTerm(1)), putTerm(nameTerm("a"), nameTerm("a")), twoTerm(6, nameTerm("a"), nameTerm("a"))) {
		if got := impl.TidySize(impl.TidyOf([]impl.Pure{pure("f", "a", saying(nil, bindTerm("a", x)))})); got != 1 {
			t.Error("left out:", termWords(x))
		}
	}
}

// callsAndChoices is all calls and choices of a body, in order, with how many names and terms each has, and how deep it is.
func callsAndChoices(body impl.Body, deep int) []string {
	var list []string
	for _, b := range body.Binds {
		if b.Kind == 1 {
			continue
		}
		list = append(list, b.Fn+" "+strconv.Itoa(len(b.Names))+" "+strconv.Itoa(len(b.Terms))+" "+strconv.Itoa(deep))
		if b.Kind == 3 {
			list = append(list, callsAndChoices(b.Then, deep+1)...)
			list = append(list, "else "+strconv.Itoa(len(b.Then.Says))+" "+strconv.Itoa(len(b.Else.Says)))
			list = append(list, callsAndChoices(b.Else, deep+1)...)
		}
	}
	return list
}

// P89: tidying keeps all calls and choices, in order, also such whose names are used nowhere.
func TestP89CallsAndChoicesAreKept(t *testing.T) {
	t.Parallel()
	kept := 0
	for _, list := range tidyLists(t, 400) {
		tidied := impl.TidyOf(list)
		for n, fn := range list {
			was, is := callsAndChoices(fn.Body, 1), callsAndChoices(tidied[n].Body, 1)
			if kept += len(was); !slices.Equal(was, is) {
				t.Fatalf("%s has %q, not %q, tidied as\n%sof\n%s", fn.Name, is, was, puresText(tidied), puresText(list))
			}
		}
	}
	if kept < 3000 {
		t.Error("the test made too few calls and choices:", kept)
	}
}

// P90: there are as many bindings as in all functions together.
func TestP90AsManyBindingsAsInAllFunctions(t *testing.T) {
	t.Parallel()
	for _, list := range tidyLists(t, 400) {
		size := 0
		for n, fn := range list {
			for _, one := range bodySizes(fn.Body) {
				size += one
			}
			if got := impl.TidySize(list[:n+1]); got != size {
				t.Fatalf("there are %d bindings, not %d, up to %s of\n%s", got, size, fn.Name, puresText(list))
			}
		}
		if len(list) == 0 || len(list) == 10 {
			continue
		}
		if got := impl.TidySize(append(slices.Clone(list), wrapPure("zz", list[0]))); got != size+1 {
			t.Fatalf("with one more call there are %d bindings, not %d, in\n%s", got, size+1, puresText(list))
		}
		if got := impl.TidySize(append(slices.Clone(list), list[0])); got != -1 {
			t.Fatalf("of what is not ok there are %d bindings, in\n%s", got, puresText(list))
		}
	}
}

// All that is drawn is tidied as the rules have it that are told in another way.
func TestTidiedDrawnFunctions(t *testing.T) {
	t.Parallel()
	for _, list := range tidyLists(t, 500) {
		mustTidy(t, list)
	}
	for _, p := range fullProgs(25) {
		mustTidy(t, mustTold(t, p))
	}
}
