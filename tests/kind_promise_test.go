package tests

import (
	"slices"
	"strings"
	"testing"

	"loop.example/handfast/impl"
)

// P63: what is of a type, given noughts of the types that it is given, says values of the types that are told, if it does not fail, and is never HeapBad. So it is with any other values of these types.
func TestP63WhatIsSaidIsOfTheTypesThatAreTold(t *testing.T) {
	t.Parallel()
	count := counter{}
	eachKind(t, 2000, func(list []impl.Pure, at int, types []impl.Type) {
		says, ok := impl.KindOf(list, list[at].Name, types)
		if !ok {
			return
		}
		if len(says) != len(list[at].Body.Says) {
			t.Fatalf("%s says %d types:\n%s", list[at].Name, len(says), puresText(list))
		}
		for _, args := range [][]impl.Val{noughts(types), countedAll(types), filledAll(types, 9999)} {
			vals, code := impl.PureRun(list, list[at].Name, args)
			count[code]++
			if code == 1 && len(vals) == 0 {
				continue
			}
			if code != 0 || !slices.EqualFunc(says, vals, isOf) {
				t.Fatalf("%s is of %v, but says %v, and is %d, with %v, in\n%s", list[at].Name, textsOf(says), vals, code, args, puresText(list))
			}
			if !slices.EqualFunc(says, vals, impl.ValOk) {
				t.Fatalf("%s says %v, which ValOk does not take as %v", list[at].Name, vals, textsOf(says))
			}
		}
	})
	count.enough(t, 5000, 2000)
}

func countedAll(types []impl.Type) []impl.Val {
	var list []impl.Val
	for _, kind := range types {
		list = append(list, counted(kind, 1))
	}
	return list
}

func filledAll(types []impl.Type, n int) []impl.Val {
	var list []impl.Val
	for _, kind := range types {
		list = append(list, fill(kind, func() int { return n }))
	}
	return list
}

// P63, of those that fail with noughts: the types are told all the same.
func TestP63WhatFailsIsOfTypes(t *testing.T) {
	for _, c := range []struct{ text, given, want string }{
		{"f\n say - 0 1\n", "", "of i"},
		{"f a\n say - a 1\n", "i", "of i"},
		{"f a b\n x = + 9999 1\n say , a b\n", "i (i,i)", "of (i,(i,i))"},
		{"e a\n say - a 1; a\nf a\n let x y = e a\n say , x y\n", "i", "of (i,i)"},
		{"f a\n if a\n  say 1\n else\n  say - a 1\n for x\n say x\n", "i", "of i"},
		{"f a\n x = - at.0 a 1\n say put.0 a x\n", "(i,i)", "of (i,i)"},
		{"f a\n x = - 0 1\n say\n", "((i,i),i)", "of"},
	} {
		list := puresFrom(c.text)
		name := list[len(list)-1].Name
		mustKind(t, list, name, typesFrom(c.given), c.want)
		mustSay(t, list, name, noughts(typesFrom(c.given)), "fails")
	}
}

// P64: functions behind do not matter for types, whatever they are of.
func TestP64FunctionsBehind(t *testing.T) {
	count := kindly{}
	behind := []impl.Pure{pure("zz", "", impl.Body{}), puresFrom("zz a\n a = at.0 + 1 1\n say a; a\n")[0], puresFrom("zz a b\n if , a b\n  say b\n else\n  say a\n for f\n say f; f\n")[0]}
	eachKind(t, 1000, func(list []impl.Pure, at int, types []impl.Type) {
		name := list[at].Name
		want := ofWords(impl.KindOf(list, name, types))
		count[want != "none"]++
		for _, fn := range append(behind, wrapPure("zz", list[at]), wrapPure("zz", list[0])) {
			mustKind(t, append(slices.Clone(list), fn), name, types, want)
		}
		// Nor do those that are behind already.
		mustKind(t, list[:at+1], name, types, want)
	})
	count.enough(t, 3000, 1000)
}

// P65: who is given too much is of no type.
func TestP65GivenTooMuch(t *testing.T) {
	t.Parallel()
	count := kindly{}
	eachKind(t, 1000, func(list []impl.Pure, at int, types []impl.Type) {
		name := list[at].Name
		_, ok := impl.KindOf(list, name, types)
		count[ok]++
		for _, more := range typesUpTo(3) {
			mustKind(t, list, name, append(slices.Clone(types), more), "none")
			mustKind(t, list, name, append([]impl.Type{more}, types...), "none")
			mustKind(t, list, name, append(slices.Clone(types), more, more), "none")
		}
		// Nor is who is given too little.
		for n := range types {
			mustKind(t, list, name, slices.Delete(slices.Clone(types), n, n+1), "none")
		}
	})
	count.enough(t, 3000, 1000)
}

// P66: Kids of a term that is of a type are of types.
func TestP66KidsAreOfTypes(t *testing.T) {
	count := kindly{}
	eachTyped(10000, func(names []string, types []impl.Type, x impl.Term) {
		_, ok := impl.KindTerm(names, types, x)
		count[ok]++
		for _, kid := range x.Kids {
			if _, kidOk := impl.KindTerm(names, types, kid); ok && !kidOk {
				t.Fatalf("by %v of %v a Kid is of no type: %v", names, textsOf(types), x)
			}
		}
	})
	count.enough(t, 10000, 300)
}

// P67: a part of a term is of that part of its type, or of none.
func TestP67PartsOfTerms(t *testing.T) {
	count := kindly{}
	eachTyped(2000, func(names []string, types []impl.Type, x impl.Term) {
		kind, ok := impl.KindTerm(names, types, x)
		for _, path := range rightPaths() {
			want := "none"
			if part, there := partType(kind, path); ok && there && len(path) <= 4 {
				want = "of " + typeText(part, 4)
			}
			count[want != "none"]++
			mustKindTerm(t, names, types, atTerm(x, path...), want)
		}
	})
	count.enough(t, 3000, 10000)
	// A part of a term that is as deep as may be is of none, and is one Kid deeper.
	sum := nameTerm("a")
	for range 7 {
		sum = atTerm(sum)
	}
	mustKindTerm(t, []string{"a"}, typesFrom("(i,i)"), sum, "of (i,i)")
	mustKindTerm(t, []string{"a"}, typesFrom("(i,i)"), atTerm(sum, 0), "none")
}

// P68: a name more that a term does not have does not matter; but for the limit.
func TestP68ANameMore(t *testing.T) {
	count := kindly{}
	eachTyped(5000, func(names []string, types []impl.Type, x impl.Term) {
		want := oneOfWords(impl.KindTerm(names, types, x))
		count[want != "none"]++
		for _, more := range typesUpTo(3) {
			mustKindTerm(t, append(slices.Clone(names), "zz"), append(slices.Clone(types), more), x, want)
			mustKindTerm(t, append([]string{"zz"}, names...), append([]impl.Type{more}, types...), x, want)
		}
		// As many more as there may be.
		full := append(slices.Clone(names), numbered(60-len(names))...)
		mustKindTerm(t, full, append(slices.Clone(types), again(60-len(names), numberType)...), x, want)
		mustKindTerm(t, append(full, "zz"), append(slices.Clone(types), again(61-len(names), numberType)...), x, "none")
		// One that it has is one more that is wrong.
		mustKindTerm(t, append(slices.Clone(names), names[0]), append(slices.Clone(types), types[0]), x, "none")
	})
	count.enough(t, 5000, 100)
}

// P69: where there is no such function there are no types.
func TestP69NoSuchFunction(t *testing.T) {
	count := kindly{}
	eachKind(t, 500, func(list []impl.Pure, at int, types []impl.Type) {
		name := list[at].Name
		_, ok := impl.KindOf(list, name, types)
		count[ok]++
		for _, other := range []string{"", name + "0", "zz", strings.ToUpper(name) + "_", " " + name} {
			mustKind(t, list, other, types, "none")
		}
		mustKind(t, list[:at], name, types, "none")
		mustKind(t, nil, name, types, "none")
	})
	count.enough(t, 1000, 400)
}
