package tests

import (
	"slices"
	"testing"

	"loop.example/handfast/impl"
)

// roomyType is a copy whose lists, empty ones too, have spare room with something in it.
func roomyType(t impl.Type) impl.Type {
	kids := make([]impl.Type, 0, len(t.Kids)+3)
	for _, kid := range t.Kids {
		kids = append(kids, roomyType(kid))
	}
	for n := len(kids); n < cap(kids); n++ {
		kids[:cap(kids)][n] = pairType(numberType, numberType)
	}
	return impl.Type{Kids: kids}
}

func roomyVal(v impl.Val) impl.Val {
	kids := make([]impl.Val, 0, len(v.Kids)+3)
	for _, kid := range v.Kids {
		kids = append(kids, roomyVal(kid))
	}
	for n := len(kids); n < cap(kids); n++ {
		kids[:cap(kids)][n] = number(77)
	}
	return impl.Val{Num: v.Num, Kids: kids}
}

func roomyPath(path []int) []int {
	list := append(make([]int, 0, len(path)+3), path...)
	for n := len(list); n < cap(list); n++ {
		list[:cap(list)][n] = 7
	}
	return list
}

// wholeType and wholeVal hold two against each other with the spare room of all lists.
func wholeType(a impl.Type, b impl.Type) bool {
	return len(a.Kids) == len(b.Kids) && slices.EqualFunc(a.Kids[:cap(a.Kids)], b.Kids[:cap(b.Kids)], wholeType)
}

func wholeVal(a impl.Val, b impl.Val) bool {
	return a.Num == b.Num && len(a.Kids) == len(b.Kids) && slices.EqualFunc(a.Kids[:cap(a.Kids)], b.Kids[:cap(b.Kids)], wholeVal)
}

func wholePath(a []int, b []int) bool {
	return len(a) == len(b) && slices.Equal(a[:cap(a)], b[:cap(b)])
}

// roomOfType and roomOfVal note each element of each list, spare room included, and tell whether one was noted already.
func roomOfType(t impl.Type, noted map[*impl.Type]bool) bool {
	again := false
	for n := range t.Kids[:cap(t.Kids)] {
		again = again || noted[&t.Kids[:cap(t.Kids)][n]]
		noted[&t.Kids[:cap(t.Kids)][n]] = true
		again = roomOfType(t.Kids[:cap(t.Kids)][n], noted) || again
	}
	return again
}

func roomOfVal(v impl.Val, noted map[*impl.Val]bool) bool {
	again := false
	for n := range v.Kids[:cap(v.Kids)] {
		again = again || noted[&v.Kids[:cap(v.Kids)][n]]
		noted[&v.Kids[:cap(v.Kids)][n]] = true
		again = roomOfVal(v.Kids[:cap(v.Kids)][n], noted) || again
	}
	return again
}

// memoryPaths leads to all parts of ok types, and to some that are none.
func memoryPaths() [][]int {
	list := rightPaths()
	return append(list, []int{-1}, []int{2}, []int{0, -1}, []int{1, 2})
}

func TestTypesAreNotChangedAndNotShared(t *testing.T) {
	for _, x := range okTypes() {
		for _, path := range memoryPaths() {
			arg, way := roomyType(x), roomyPath(path)
			impl.TypeOk(arg)
			impl.TypeText(arg)
			part, _ := impl.TypeAt(arg, way)
			if !wholeType(arg, roomyType(x)) || !wholePath(way, roomyPath(path)) {
				t.Fatalf("TypeAt %v %v changed what it was given", x, path)
			}
			noted := map[*impl.Type]bool{}
			roomOfType(arg, noted)
			if roomOfType(part, noted) {
				t.Fatalf("TypeAt %v %v shares memory", x, path)
			}
		}
	}
}

func TestValuesAreNotChangedAndNotShared(t *testing.T) {
	for _, x := range okTypes() {
		v := counted(x, 1)
		for _, path := range memoryPaths() {
			kind, _ := partType(x, path)
			part := counted(kind, 500)
			arg, way, put, of := roomyVal(v), roomyPath(path), roomyVal(part), roomyType(x)
			impl.ValOk(of, arg)
			impl.ValText(arg)
			found, _ := impl.ValAt(arg, way)
			other, _ := impl.ValPut(arg, way, put)
			if !wholeVal(arg, roomyVal(v)) || !wholePath(way, roomyPath(path)) || !wholeVal(put, roomyVal(part)) || !wholeType(of, roomyType(x)) {
				t.Fatalf("%v %v %v: what was given was changed", v, path, part)
			}
			noted := map[*impl.Val]bool{}
			roomOfVal(arg, noted)
			roomOfVal(put, noted)
			if roomOfVal(found, noted) || roomOfVal(other, noted) {
				t.Fatalf("%v %v %v: memory is shared", v, path, part)
			}
		}
	}
}

// Kids that share one list in an argument, or are put into two places, are lists of their own in an answer.
func TestListsOfOneAnswerShareNothing(t *testing.T) {
	two := pairType(numberType, numberType)
	part, ok := impl.TypeAt(pairType(pairType(two, two), pairType(two, two)), nil)
	if !ok || roomOfType(part, map[*impl.Type]bool{}) {
		t.Error("TypeAt", ok)
	}
	one := pairVal(number(1), number(2))
	v := pairVal(pairVal(one, one), pairVal(one, one))
	if found, ok := impl.ValAt(v, nil); !ok || roomOfVal(found, map[*impl.Val]bool{}) {
		t.Error("ValAt", ok)
	}
	for _, path := range [][]int{nil, {0}, {1, 0}} {
		part, _ := partVal(v, path)
		if other, ok := impl.ValPut(v, path, part); !ok || roomOfVal(other, map[*impl.Val]bool{}) {
			t.Error("ValPut", path, ok)
		}
	}
}

// What is written into an answer, or into what was given, is not seen on the other side, nor by a later call.
func TestNothingIsKept(t *testing.T) {
	v := pairVal(pairVal(number(1), number(2)), number(3))
	part := pairVal(number(4), number(5))
	w := mustPut(t, v, []int{0}, part)
	part.Kids[0].Num = 9
	v.Kids[1].Num = 8
	if impl.ValText(w) != "((4,5),3)" {
		t.Error(impl.ValText(w))
	}
	w.Kids[0].Kids[0].Num = 6
	if impl.ValText(v) != "((1,2),8)" || impl.ValText(part) != "(9,5)" {
		t.Error(impl.ValText(v), impl.ValText(part))
	}
	x := pairType(pairType(numberType, numberType), numberType)
	mustType(t, x, []int{0}).Kids[0] = x
	if impl.TypeText(x) != "((i,i),i)" || impl.TypeText(mustType(t, x, []int{0})) != "(i,i)" {
		t.Error(impl.TypeText(x))
	}
}

// wrongArgs is a type and a value a row, wrong ones and ok ones mixed.
func wrongArgs() ([]impl.Type, []impl.Val) {
	types := append(okTypes(), endlessType(), deepType(100000), impl.Type{Kids: []impl.Type{numberType}}, impl.Type{Kids: []impl.Type{numberType, numberType, numberType}}, deepType(5))
	vals := []impl.Val{endlessVal(), deepVal(100000), deepVal(5), number(-1), number(10000)}
	for _, n := range []int{1, 3} {
		vals = append(vals, impl.Val{Kids: make([]impl.Val, n)}, pairVal(number(1), impl.Val{Kids: make([]impl.Val, n)}))
	}
	vals = append(vals, impl.Val{Num: 1, Kids: make([]impl.Val, 2)})
	for _, x := range okTypes() {
		vals = append(vals, counted(x, 1))
	}
	return types, vals
}

// No function panics, whatever it is given.
func TestNoPanicAtWrongInputs(t *testing.T) {
	defer func() {
		if r := recover(); r != nil {
			t.Fatal("a panic:", r)
		}
	}()
	types, vals := wrongArgs()
	for _, x := range types {
		impl.TypeOk(x)
		impl.TypeText(x)
		for _, path := range allPaths() {
			impl.TypeAt(x, path)
		}
		for _, v := range vals {
			impl.ValOk(x, v)
		}
	}
	for _, v := range vals {
		impl.ValText(v)
		for _, path := range allPaths() {
			impl.ValAt(v, path)
			for _, part := range vals {
				impl.ValPut(v, path, part)
			}
		}
	}
}

// What is wrong is not changed either.
func TestWrongInputsAreNotChanged(t *testing.T) {
	types, vals := wrongArgs()
	for _, x := range types {
		if deepOfAtMost(x, 6) {
			arg := roomyType(x)
			impl.TypeOk(arg)
			impl.TypeText(arg)
			impl.TypeAt(arg, []int{0, 1})
			impl.ValOk(arg, number(0))
			if !wholeType(arg, roomyType(x)) {
				t.Errorf("%v is changed", x)
			}
		}
	}
	for _, v := range vals[2:] {
		arg := roomyVal(v)
		impl.ValText(arg)
		impl.ValOk(numberType, arg)
		impl.ValAt(arg, []int{1})
		impl.ValPut(arg, []int{0}, arg)
		impl.ValPut(pairVal(arg, number(1)), []int{0}, arg)
		if !wholeVal(arg, roomyVal(v)) {
			t.Errorf("%v is changed", v)
		}
	}
}

func deepOfAtMost(t impl.Type, room int) bool {
	if room == 0 {
		return false
	}
	for _, kid := range t.Kids {
		if !deepOfAtMost(kid, room-1) {
			return false
		}
	}
	return true
}
