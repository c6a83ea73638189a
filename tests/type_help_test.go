package tests

import (
	"math"
	"slices"
	"testing"

	"loop.example/handfast/impl"
)

var numberType = impl.Type{}

func pairType(a impl.Type, b impl.Type) impl.Type {
	return impl.Type{Kids: []impl.Type{a, b}}
}

func number(n int) impl.Val {
	return impl.Val{Num: n}
}

func pairVal(a impl.Val, b impl.Val) impl.Val {
	return impl.Val{Kids: []impl.Val{a, b}}
}

// typesUpTo is all types that are at most so deep, each once: 1, 2, 5, 26, 677 and so on.
func typesUpTo(deep int) []impl.Type {
	if deep == 0 {
		return nil
	}
	list := []impl.Type{numberType}
	for _, a := range typesUpTo(deep - 1) {
		for _, b := range typesUpTo(deep - 1) {
			list = append(list, pairType(a, b))
		}
	}
	return list
}

// okTypes is written with 4, not with TypeMaxDeep, so that a limit that is moved is seen.
func okTypes() []impl.Type {
	return typesUpTo(4)
}

func deepOf(t impl.Type) int {
	deep := 0
	for _, kid := range t.Kids {
		deep = max(deep, deepOf(kid))
	}
	return deep + 1
}

func sameType(a impl.Type, b impl.Type) bool {
	return slices.EqualFunc(a.Kids, b.Kids, sameType)
}

func sameVal(a impl.Val, b impl.Val) bool {
	return a.Num == b.Num && slices.EqualFunc(a.Kids, b.Kids, sameVal)
}

// pathsOf is all paths of just so many places, each one of these.
func pathsOf(size int, places []int) [][]int {
	if size == 0 {
		return [][]int{nil}
	}
	var list [][]int
	for _, path := range pathsOf(size-1, places) {
		for _, place := range places {
			list = append(list, append(slices.Clone(path), place))
		}
	}
	return list
}

// rightPaths is all paths that are places 0 or 1, up to two longer than any ok type is deep.
func rightPaths() [][]int {
	var list [][]int
	for size := 0; size <= 5; size++ {
		list = append(list, pathsOf(size, []int{0, 1})...)
	}
	return list
}

// allPaths has those, and such with a place below 0 or above 1 anywhere.
func allPaths() [][]int {
	list := rightPaths()
	for size := 1; size <= 4; size++ {
		for _, path := range pathsOf(size, []int{-1, 0, 1, 2}) {
			if slices.Contains(path, -1) || slices.Contains(path, 2) {
				list = append(list, path)
			}
		}
	}
	for _, odd := range []int{math.MinInt, -2, 3, math.MaxInt} {
		list = append(list, []int{odd}, []int{0, odd}, []int{odd, 1})
	}
	return append(list, make([]int, 100000))
}

// partType is what TypeAt of an ok type should be, said in another way.
func partType(t impl.Type, path []int) (impl.Type, bool) {
	if len(path) == 0 {
		return t, true
	}
	if path[0] == 0 && len(t.Kids) == 2 {
		return partType(t.Kids[0], path[1:])
	}
	if path[0] == 1 && len(t.Kids) == 2 {
		return partType(t.Kids[1], path[1:])
	}
	return impl.Type{}, false
}

func partVal(v impl.Val, path []int) (impl.Val, bool) {
	if len(path) == 0 {
		return v, true
	}
	if path[0] == 0 && len(v.Kids) == 2 {
		return partVal(v.Kids[0], path[1:])
	}
	if path[0] == 1 && len(v.Kids) == 2 {
		return partVal(v.Kids[1], path[1:])
	}
	return impl.Val{}, false
}

// fill makes a value of a type; next tells its numbers, from left to right.
func fill(t impl.Type, next func() int) impl.Val {
	if len(t.Kids) == 0 {
		return number(next())
	}
	first := fill(t.Kids[0], next)
	return pairVal(first, fill(t.Kids[1], next))
}

// counted fills a type with numbers that are all different, from one on.
func counted(t impl.Type, from int) impl.Val {
	return fill(t, func() int {
		from++
		return from - 1
	})
}

// valsOf is some values of a type, the edges of numbers among them.
func valsOf(t impl.Type) []impl.Val {
	turn := 0
	return []impl.Val{
		counted(t, 1),
		counted(t, 9000),
		fill(t, func() int { return 0 }),
		fill(t, func() int { return 9999 }),
		fill(t, func() int { turn++; return turn % 2 * 9999 }),
	}
}

// meet says whether one path begins with the other.
func meet(a []int, b []int) bool {
	n := min(len(a), len(b))
	return slices.Equal(a[:n], b[:n])
}

// insideTypes puts a type at each part of each ok type.
func insideTypes(part impl.Type) []impl.Type {
	var list []impl.Type
	for _, t := range okTypes() {
		for _, path := range rightPaths() {
			if _, ok := partType(t, path); ok {
				list = append(list, withType(t, path, part))
			}
		}
	}
	return list
}

func withType(t impl.Type, path []int, part impl.Type) impl.Type {
	if len(path) == 0 {
		return part
	}
	kids := slices.Clone(t.Kids)
	kids[path[0]] = withType(kids[path[0]], path[1:], part)
	return impl.Type{Kids: kids}
}

func withVal(v impl.Val, path []int, part impl.Val) impl.Val {
	if len(path) == 0 {
		return part
	}
	kids := slices.Clone(v.Kids)
	kids[path[0]] = withVal(kids[path[0]], path[1:], part)
	return impl.Val{Num: v.Num, Kids: kids}
}

// insideVals puts a value at each part of a value of each ok type.
func insideVals(part impl.Val) []impl.Val {
	var list []impl.Val
	for _, t := range okTypes() {
		for _, path := range rightPaths() {
			if _, ok := partType(t, path); ok {
				list = append(list, withVal(counted(t, 1), path, part))
			}
		}
	}
	return list
}

// wrongTypes is types that are not ok: by themselves, or as a part of others.
func wrongTypes() []impl.Type {
	i := numberType
	two := pairType(i, i)
	var list []impl.Type
	for _, bad := range []impl.Type{
		{Kids: []impl.Type{i}},
		{Kids: []impl.Type{i, i, i}},
		{Kids: []impl.Type{i, i, i, i}},
		{Kids: []impl.Type{two}},
		{Kids: []impl.Type{two, two, two}},
	} {
		list = append(list, insideTypes(bad)...)
	}
	for _, t := range typesUpTo(5) {
		if deepOf(t) == 5 {
			list = append(list, t)
		}
	}
	return append(list, endlessType(), deepType(100000))
}

// wrongVals is values of no ok type: by themselves, or as a part of others.
func wrongVals() []impl.Val {
	o := number(0)
	var list []impl.Val
	for _, bad := range []impl.Val{
		number(-1),
		number(10000),
		number(math.MinInt),
		number(math.MaxInt),
		{Kids: []impl.Val{o}},
		{Kids: []impl.Val{o, o, o}},
		{Kids: []impl.Val{o, o, o, o}},
		{Num: 1, Kids: []impl.Val{o, o}},
		{Num: -1, Kids: []impl.Val{o, o}},
		{Num: 9999, Kids: []impl.Val{o, o}},
		{Num: 1, Kids: []impl.Val{o}},
	} {
		list = append(list, insideVals(bad)...)
	}
	for _, t := range typesUpTo(5) {
		if deepOf(t) == 5 {
			list = append(list, counted(t, 1))
		}
	}
	return append(list, endlessVal(), deepVal(100000))
}

// endlessType is a type whose list of Kids holds itself.
func endlessType() impl.Type {
	kids := make([]impl.Type, 2)
	kids[0].Kids = kids
	kids[1].Kids = kids
	return impl.Type{Kids: kids}
}

func endlessVal() impl.Val {
	kids := make([]impl.Val, 2)
	kids[0].Kids = kids
	kids[1].Kids = kids
	return impl.Val{Kids: kids}
}

func deepType(deep int) impl.Type {
	t := numberType
	for ; deep > 1; deep-- {
		t = pairType(numberType, t)
	}
	return t
}

func deepVal(deep int) impl.Val {
	v := number(0)
	for ; deep > 1; deep-- {
		v = pairVal(number(0), v)
	}
	return v
}

// mustType and mustVal are for parts that are there.
func mustType(t *testing.T, whole impl.Type, path []int) impl.Type {
	t.Helper()
	part, ok := impl.TypeAt(whole, path)
	if !ok {
		t.Fatalf("TypeAt %v %v: no part", whole, path)
	}
	return part
}

func mustVal(t *testing.T, whole impl.Val, path []int) impl.Val {
	t.Helper()
	part, ok := impl.ValAt(whole, path)
	if !ok {
		t.Fatalf("ValAt %v %v: no part", whole, path)
	}
	return part
}

func mustPut(t *testing.T, whole impl.Val, path []int, part impl.Val) impl.Val {
	t.Helper()
	other, ok := impl.ValPut(whole, path, part)
	if !ok {
		t.Fatalf("ValPut %v %v %v: not put", whole, path, part)
	}
	return other
}
