package tests

import (
	"strconv"
	"testing"

	"loop.example/handfast/impl"
)

func TestNumbersAtTheirEdges(t *testing.T) {
	for _, c := range []struct {
		num int
		ok  bool
	}{{0, true}, {1, true}, {9998, true}, {9999, true}, {10000, false}, {-1, false}} {
		v := number(c.num)
		text := ""
		if c.ok {
			text = strconv.Itoa(c.num)
		}
		if impl.ValOk(numberType, v) != c.ok || impl.ValText(v) != text {
			t.Errorf("%d: %v %q", c.num, impl.ValOk(numberType, v), impl.ValText(v))
		}
		part, ok := impl.ValAt(v, nil)
		if ok != c.ok || ok && part.Num != c.num || !ok && part.Num != 0 {
			t.Errorf("ValAt %d: %v %v", c.num, part, ok)
		}
		if _, ok := impl.ValPut(number(5), nil, v); ok != c.ok {
			t.Errorf("ValPut of %d: %v", c.num, ok)
		}
		if _, ok := impl.ValPut(v, nil, number(5)); ok != c.ok {
			t.Errorf("ValPut to %d: %v", c.num, ok)
		}
	}
}

func TestValuesOfTheEmptyList(t *testing.T) {
	empty := impl.Val{Num: 7, Kids: []impl.Val{}}
	if !impl.ValOk(numberType, empty) || !impl.ValOk(impl.Type{Kids: []impl.Type{}}, number(7)) || impl.ValText(empty) != "7" {
		t.Error("a number with the empty list")
	}
	if got := mustPut(t, pairVal(empty, empty), []int{1}, empty); impl.ValText(got) != "(7,7)" {
		t.Error(got)
	}
}

// P4: a value is of one type alone.
func TestP4OneTypeAlone(t *testing.T) {
	list := okTypes()
	for a, x := range list {
		for _, v := range valsOf(x) {
			for b, y := range list {
				if impl.ValOk(y, v) != (a == b) {
					t.Errorf("%v is of %v: %v", v, y, impl.ValOk(y, v))
				}
			}
		}
	}
}

func TestWrongValuesAreOfNoType(t *testing.T) {
	list := okTypes()
	paths := [][]int{nil, {0}, {1}, {0, 0}, {1, 1}, {0, 1, 0}, {-1}, {2}}
	for n, v := range wrongVals() {
		for _, x := range list {
			if impl.ValOk(x, v) {
				t.Fatalf("wrong value %d is of %v", n, x)
			}
		}
		if impl.ValText(v) != "" {
			t.Fatalf("wrong value %d: %q", n, impl.ValText(v))
		}
		for _, path := range paths {
			wantNoVal(t, "ValAt", n, path)(impl.ValAt(v, path))
			wantNoVal(t, "ValPut of 3", n, path)(impl.ValPut(v, path, number(3)))
			wantNoVal(t, "ValPut of a pair", n, path)(impl.ValPut(v, path, pairVal(number(3), number(4))))
			wantNoVal(t, "ValPut of itself", n, path)(impl.ValPut(v, path, v))
		}
	}
}

func wantNoVal(t *testing.T, what string, n int, path []int) func(impl.Val, bool) {
	return func(got impl.Val, ok bool) {
		t.Helper()
		if ok || got.Num != 0 || got.Kids != nil {
			t.Fatalf("%s, wrong value %d, path %v: %v %v", what, n, path, got, ok)
		}
	}
}

func TestWrongValuesAreNotPut(t *testing.T) {
	whole := []impl.Val{
		number(1),
		pairVal(number(1), number(2)),
		pairVal(pairVal(number(1), number(2)), pairVal(number(3), pairVal(number(4), number(5)))),
	}
	paths := [][]int{nil, {0}, {1}, {1, 1}, {0, 1}, {1, 1, 0}}
	for n, part := range wrongVals() {
		for _, v := range whole {
			for _, path := range paths {
				wantNoVal(t, "ValPut", n, path)(impl.ValPut(v, path, part))
			}
		}
	}
}

func TestValAtFindsParts(t *testing.T) {
	for _, x := range okTypes() {
		for _, v := range valsOf(x) {
			for _, path := range allPaths() {
				want, wantOk := partVal(v, path)
				got, ok := impl.ValAt(v, path)
				if ok != wantOk || !sameVal(got, want) {
					t.Fatalf("ValAt %v %v: %v %v", v, path, got, ok)
				}
			}
		}
	}
}

// P5: a part of a value is of the part's type.
func TestP5PartsAreOfThePartsType(t *testing.T) {
	for _, x := range okTypes() {
		for _, v := range valsOf(x) {
			for _, path := range allPaths() {
				part, ok := impl.ValAt(v, path)
				kind, kindOk := impl.TypeAt(x, path)
				if ok != kindOk || ok && !impl.ValOk(kind, part) {
					t.Fatalf("%v by %v: %v %v, of %v %v", v, path, part, ok, kind, kindOk)
				}
			}
		}
	}
}

// P6: a part of a part is a part, by a path cut anywhere; and where there is none, there is none by parts either.
func TestP6PartsOfPartsOfValues(t *testing.T) {
	for _, x := range okTypes() {
		v := counted(x, 1)
		for _, path := range rightPaths() {
			whole, ok := impl.ValAt(v, path)
			for cut := 0; cut <= len(path); cut++ {
				first, firstOk := impl.ValAt(v, path[:cut])
				if !firstOk {
					if ok {
						t.Fatalf("ValAt %v %v: none by %v", v, path, path[:cut])
					}
					continue
				}
				rest, restOk := impl.ValAt(first, path[cut:])
				if ok != restOk || ok && !sameVal(whole, rest) {
					t.Fatalf("ValAt %v %v cut at %d: %v %v, whole %v %v", v, path, cut, rest, restOk, whole, ok)
				}
			}
		}
	}
}

// eachPut tells, of all ok types, a value, a path that leads to a part, and another part of its type.
func eachPut(tell func(x impl.Type, v impl.Val, path []int, part impl.Val)) {
	for _, x := range okTypes() {
		for _, v := range valsOf(x) {
			for _, path := range rightPaths() {
				kind, ok := partType(x, path)
				if !ok {
					continue
				}
				for _, part := range []impl.Val{counted(kind, 500), fill(kind, func() int { return 0 }), fill(kind, func() int { return 9999 })} {
					tell(x, v, path, part)
				}
			}
		}
	}
}

// P7: what is put is there.
func TestP7WhatIsPutIsThere(t *testing.T) {
	eachPut(func(x impl.Type, v impl.Val, path []int, part impl.Val) {
		if got := mustVal(t, mustPut(t, v, path, part), path); !sameVal(got, part) {
			t.Fatalf("%v with %v by %v has %v there", v, part, path, got)
		}
	})
}

// P8: what is put changes no part that does not meet it.
func TestP8WhatDoesNotMeetStays(t *testing.T) {
	eachPut(func(x impl.Type, v impl.Val, path []int, part impl.Val) {
		w := mustPut(t, v, path, part)
		for _, other := range rightPaths() {
			if meet(path, other) {
				continue
			}
			before, ok := impl.ValAt(v, other)
			after, okAfter := impl.ValAt(w, other)
			if ok != okAfter || !sameVal(before, after) {
				t.Fatalf("%v with %v by %v: by %v it was %v, and is %v", v, part, path, other, before, after)
			}
		}
	})
}

// P9: what is put last counts; put back, it is as it was.
func TestP9WhatIsPutLastCounts(t *testing.T) {
	eachPut(func(x impl.Type, v impl.Val, path []int, part impl.Val) {
		kind := mustType(t, x, path)
		first := mustPut(t, v, path, counted(kind, 300))
		if got, want := mustPut(t, first, path, part), mustPut(t, v, path, part); !sameVal(got, want) {
			t.Fatalf("put twice %v, put once %v", got, want)
		}
		if got := mustPut(t, first, path, mustVal(t, v, path)); !sameVal(got, v) {
			t.Fatalf("put back by %v: %v, was %v", path, got, v)
		}
	})
}

// P10: to put what was there changes nothing.
func TestP10PutWhatWasThere(t *testing.T) {
	eachPut(func(x impl.Type, v impl.Val, path []int, part impl.Val) {
		if got := mustPut(t, v, path, mustVal(t, v, path)); !sameVal(got, v) {
			t.Fatalf("%v, by %v what was there: %v", v, path, got)
		}
	})
}

// P11: a value stays of its type, whatever is put; and nothing is put that is of another type.
func TestP11AValueStaysOfItsType(t *testing.T) {
	eachPut(func(x impl.Type, v impl.Val, path []int, part impl.Val) {
		if w := mustPut(t, v, path, part); !impl.ValOk(x, w) {
			t.Fatalf("%v with %v by %v is not of %v", v, part, path, x)
		}
	})
	list := okTypes()
	for _, x := range list {
		v := counted(x, 1)
		for _, path := range rightPaths() {
			kind, there := partType(x, path)
			for _, y := range list {
				part := counted(y, 500)
				w, ok := impl.ValPut(v, path, part)
				if ok != (there && sameType(kind, y)) {
					t.Fatalf("ValPut %v %v %v: %v", v, path, part, ok)
				}
				if !ok && (w.Num != 0 || w.Kids != nil) {
					t.Fatalf("ValPut %v %v %v: false and %v", v, path, part, w)
				}
			}
		}
	}
}

// P12: where there is no part nothing is, and nothing is put.
func TestP12WhereThereIsNoPart(t *testing.T) {
	parts := []impl.Val{number(0), number(3), pairVal(number(3), number(4))}
	for n, x := range okTypes() {
		v := counted(x, 1)
		for _, path := range allPaths() {
			if _, there := partType(x, path); there {
				continue
			}
			wantNoVal(t, "ValAt", n, path)(impl.ValAt(v, path))
			for _, part := range append(parts, v) {
				wantNoVal(t, "ValPut", n, path)(impl.ValPut(v, path, part))
			}
			if part, ok := impl.TypeAt(x, path); ok || part.Kids != nil {
				t.Fatalf("TypeAt %v %v: %v %v", x, path, part, ok)
			}
		}
	}
}

// P13: a pair's text is that of both in brackets.
func TestP13TextsOfPairs(t *testing.T) {
	for _, x := range typesUpTo(3) {
		for _, y := range typesUpTo(3) {
			for _, a := range valsOf(x) {
				for _, b := range valsOf(y) {
					want := "(" + impl.ValText(a) + "," + impl.ValText(b) + ")"
					if got := impl.ValText(pairVal(a, b)); got != want {
						t.Fatalf("%q, not %q", got, want)
					}
				}
			}
		}
	}
	v := pairVal(pairVal(number(0), number(10)), pairVal(number(9999), pairVal(number(7), number(100))))
	if got := impl.ValText(v); got != "((0,10),(9999,(7,100)))" {
		t.Error(got)
	}
}

// P14: with pairs around it a value is too deep at last, and has no text.
func TestP14TooDeepAtLast(t *testing.T) {
	wraps := []func(impl.Val) impl.Val{
		func(v impl.Val) impl.Val { return pairVal(v, number(1)) },
		func(v impl.Val) impl.Val { return pairVal(number(1), v) },
		func(v impl.Val) impl.Val { return pairVal(v, v) },
	}
	for _, x := range okTypes() {
		for _, wrap := range wraps {
			v := counted(x, 1)
			for deep := deepOf(x); deep <= 8; deep++ {
				if (impl.ValText(v) != "") != (deep <= 4) {
					t.Fatalf("%d deep: %q", deep, impl.ValText(v))
				}
				if _, ok := impl.ValAt(v, nil); ok != (deep <= 4) {
					t.Fatalf("%d deep: ValAt %v", deep, ok)
				}
				v = wrap(v)
			}
		}
	}
}

func TestValPutExamples(t *testing.T) {
	v := pairVal(number(3), pairVal(number(4), number(9999)))
	for _, c := range []struct {
		path []int
		part impl.Val
		want string
	}{
		{nil, pairVal(number(1), pairVal(number(2), number(5))), "(1,(2,5))"},
		{[]int{0}, number(0), "(0,(4,9999))"},
		{[]int{1}, pairVal(number(8), number(9)), "(3,(8,9))"},
		{[]int{1, 0}, number(9999), "(3,(9999,9999))"},
		{[]int{1, 1}, number(0), "(3,(4,0))"},
		{nil, number(1), ""},
		{[]int{0}, pairVal(number(1), number(2)), ""},
		{[]int{1}, number(1), ""},
		{[]int{1}, pairVal(number(1), pairVal(number(2), number(3))), ""},
		{[]int{0, 0}, number(1), ""},
		{[]int{2}, number(1), ""},
		{[]int{-1}, number(1), ""},
		{[]int{1, 2}, number(1), ""},
	} {
		w, ok := impl.ValPut(v, c.path, c.part)
		if ok != (c.want != "") || ok && impl.ValText(w) != c.want {
			t.Errorf("%v %v: %v %v", c.path, c.part, w, ok)
		}
	}
}
