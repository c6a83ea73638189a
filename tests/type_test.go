package tests

import (
	"testing"

	"loop.example/handfast/impl"
)

func TestLimitsOfTypes(t *testing.T) {
	if impl.TypeMaxDeep != 4 || impl.ValMax != 9999 {
		t.Fatal(impl.TypeMaxDeep, impl.ValMax)
	}
	for _, x := range typesUpTo(5) {
		if impl.TypeOk(x) != (deepOf(x) <= 4) {
			t.Errorf("TypeOk %v, %d deep: %v", x, deepOf(x), impl.TypeOk(x))
		}
	}
	if len(okTypes()) != 26 {
		t.Error(len(okTypes()))
	}
}

func TestTypeOkOfTheEmptyList(t *testing.T) {
	empty := impl.Type{Kids: []impl.Type{}}
	if !impl.TypeOk(empty) || impl.TypeText(empty) != "i" {
		t.Error("a number with the empty list")
	}
	if !impl.TypeOk(pairType(empty, numberType)) || impl.TypeText(pairType(empty, numberType)) != "(i,i)" {
		t.Error("a pair of such")
	}
}

func TestTypeAtFindsParts(t *testing.T) {
	for _, x := range okTypes() {
		for _, path := range allPaths() {
			want, wantOk := partType(x, path)
			got, ok := impl.TypeAt(x, path)
			if ok != wantOk || !sameType(got, want) {
				t.Fatalf("TypeAt %v %v: %v %v", x, path, got, ok)
			}
		}
	}
}

func TestTypeAtExamples(t *testing.T) {
	i := numberType
	x := pairType(pairType(i, i), pairType(i, pairType(i, i)))
	for _, c := range []struct {
		path []int
		want string
	}{
		{nil, "((i,i),(i,(i,i)))"},
		{[]int{}, "((i,i),(i,(i,i)))"},
		{[]int{0}, "(i,i)"},
		{[]int{1}, "(i,(i,i))"},
		{[]int{1, 0}, "i"},
		{[]int{1, 1}, "(i,i)"},
		{[]int{1, 1, 1}, "i"},
	} {
		if got := impl.TypeText(mustType(t, x, c.path)); got != c.want {
			t.Errorf("%v: %s", c.path, got)
		}
	}
	for _, path := range [][]int{{2}, {-1}, {0, 2}, {1, 0, 0}, {1, 1, 1, 0}, {1, 1, -1}} {
		if part, ok := impl.TypeAt(x, path); ok || part.Kids != nil {
			t.Errorf("%v: %v %v", path, part, ok)
		}
	}
}

// P1: a part of a part is a part, by a path cut anywhere; and where there is none, there is none by parts either.
func TestP1PartsOfPartsOfTypes(t *testing.T) {
	for _, x := range okTypes() {
		for _, path := range rightPaths() {
			whole, ok := impl.TypeAt(x, path)
			for cut := 0; cut <= len(path); cut++ {
				first, firstOk := impl.TypeAt(x, path[:cut])
				rest, restOk := impl.TypeAt(first, path[cut:])
				if ok != (firstOk && restOk) || ok && !sameType(whole, rest) {
					t.Fatalf("TypeAt %v %v cut at %d: %v %v, whole %v %v", x, path, cut, rest, restOk, whole, ok)
				}
			}
		}
	}
}

// P2: each part of an ok type is ok; a pair of it with itself is, if it is not too deep.
func TestP2PartsAndPairsOfOkTypes(t *testing.T) {
	for _, x := range okTypes() {
		for _, path := range rightPaths() {
			if _, there := partType(x, path); there && !impl.TypeOk(mustType(t, x, path)) {
				t.Errorf("the part of %v by %v is not ok", x, path)
			}
		}
		if impl.TypeOk(pairType(x, x)) != (deepOf(x) < 4) {
			t.Errorf("a pair of %v with itself: %v", x, !(deepOf(x) < 4))
		}
	}
}

// P3: two ok types are the same just if their texts are.
func TestP3TextsOfTypes(t *testing.T) {
	list := okTypes()
	for a, x := range list {
		if impl.TypeText(x) == "" {
			t.Errorf("%v has no text", x)
		}
		for b, y := range list {
			if (impl.TypeText(x) == impl.TypeText(y)) != (a == b) {
				t.Errorf("%v and %v: %s and %s", x, y, impl.TypeText(x), impl.TypeText(y))
			}
		}
	}
}

func TestTextOfPairTypes(t *testing.T) {
	if impl.TypeText(numberType) != "i" {
		t.Error(impl.TypeText(numberType))
	}
	for _, a := range typesUpTo(3) {
		for _, b := range typesUpTo(3) {
			want := "(" + impl.TypeText(a) + "," + impl.TypeText(b) + ")"
			if got := impl.TypeText(pairType(a, b)); got != want {
				t.Errorf("%s, not %s", got, want)
			}
		}
	}
}

func TestWrongTypesHaveNothing(t *testing.T) {
	paths := [][]int{nil, {0}, {1}, {0, 0}, {1, 1}, {0, 1, 0}, {1, 1, 1, 1}, {-1}, {2}}
	for n, x := range wrongTypes() {
		if impl.TypeOk(x) || impl.TypeText(x) != "" {
			t.Fatalf("wrong type %d: %v %q", n, impl.TypeOk(x), impl.TypeText(x))
		}
		for _, path := range paths {
			if part, ok := impl.TypeAt(x, path); ok || part.Kids != nil {
				t.Fatalf("wrong type %d has a part by %v", n, path)
			}
		}
	}
}

// A value that is formed just like a type that is not ok is not of it.
func TestNoValueIsOfAWrongType(t *testing.T) {
	wrong := wrongTypes()
	for _, x := range wrong[:len(wrong)-2] { // one of the last two has no end, the other is told below
		for _, v := range []impl.Val{likeType(x), number(0), pairVal(number(0), number(0))} {
			if impl.ValOk(x, v) {
				t.Errorf("%v is of %v", v, x)
			}
		}
	}
	for _, x := range typesUpTo(5) {
		if impl.ValOk(x, likeType(x)) != (deepOf(x) <= 4) {
			t.Errorf("a value like %v", x)
		}
	}
	if impl.ValOk(endlessType(), endlessVal()) || impl.ValOk(deepType(100000), deepVal(100000)) {
		t.Error("a value of an endless type")
	}
}

// likeType has noughts, and Kids wherever the type has some.
func likeType(t impl.Type) impl.Val {
	var v impl.Val
	for _, kid := range t.Kids {
		v.Kids = append(v.Kids, likeType(kid))
	}
	return v
}
