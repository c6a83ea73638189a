// Package impl: what is lent comes back changed, told without lending.
package impl

import "strconv"

// Limits of types.
const (
	TypeMaxDeep = 4
	ValMax      = 9999
)

// Type is a number, or a pair of two types.
type Type struct {
	Kids []Type
}

// Val is a number, or a pair of two values.
type Val struct {
	Num  int
	Kids []Val
}

// TypeOk says whether a type is ok.
func TypeOk(t Type) bool {
	return typeFits(t, TypeMaxDeep)
}

// TypeAt is the type of a part.
func TypeAt(t Type, path []int) (Type, bool) {
	if !TypeOk(t) {
		return Type{}, false
	}
	part, ok := partAt(t, path, typeKids)
	return typeCopy(part), ok
}

// TypeText writes a type.
func TypeText(t Type) string {
	if !TypeOk(t) {
		return ""
	}
	return typeWrite(t)
}

// ValOk says whether a value is of a type.
func ValOk(t Type, v Val) bool {
	own, ok := valType(v)
	return ok && TypeOk(t) && typeSame(t, own)
}

// ValAt is a part of a value.
func ValAt(v Val, path []int) (Val, bool) {
	if _, ok := valType(v); !ok {
		return Val{}, false
	}
	part, ok := partAt(v, path, valKids)
	return valCopy(part), ok
}

// ValPut is a value with another part.
func ValPut(v Val, path []int, part Val) (Val, bool) {
	whole, ok := valType(v)
	if !ok {
		return Val{}, false
	}
	there, ok := partAt(whole, path, typeKids)
	if !ok || !ValOk(there, part) {
		return Val{}, false
	}
	return valWith(v, path, part), true
}

// ValText writes a value.
func ValText(v Val) string {
	if _, ok := valType(v); !ok {
		return ""
	}
	return valWrite(v)
}

// partAt finds a part of a type or of a value. Both are ok by then, so a place is there just if it is in the list of Kids.
func partAt[T any](whole T, path []int, kids func(T) []T) (T, bool) {
	for _, place := range path {
		list := kids(whole)
		if place < 0 || place >= len(list) {
			var nothing T
			return nothing, false
		}
		whole = list[place]
	}
	return whole, true
}

func typeKids(t Type) []Type {
	return t.Kids
}

func valKids(v Val) []Val {
	return v.Kids
}

// typeFits counts the room down, so that it ends even at Kids that hold themselves.
func typeFits(t Type, room int) bool {
	if room == 0 {
		return false
	}
	switch len(t.Kids) {
	case 0:
		return true
	case 2:
		return typeFits(t.Kids[0], room-1) && typeFits(t.Kids[1], room-1)
	}
	return false
}

// typeSame holds two ok types against each other.
func typeSame(a Type, b Type) bool {
	if len(a.Kids) == 0 || len(b.Kids) == 0 {
		return len(a.Kids) == len(b.Kids)
	}
	return typeSame(a.Kids[0], b.Kids[0]) && typeSame(a.Kids[1], b.Kids[1])
}

// typeCopy copies an ok type; a number is made anew, as its empty list may have spare room.
func typeCopy(t Type) Type {
	if len(t.Kids) == 0 {
		return Type{}
	}
	return Type{Kids: []Type{typeCopy(t.Kids[0]), typeCopy(t.Kids[1])}}
}

func typeWrite(t Type) string {
	if len(t.Kids) == 0 {
		return "i"
	}
	return "(" + typeWrite(t.Kids[0]) + "," + typeWrite(t.Kids[1]) + ")"
}

// valType is the one ok type that a value is of; false, if there is none.
func valType(v Val) (Type, bool) {
	return valTypeIn(v, TypeMaxDeep)
}

// valTypeIn counts the room down, so that it ends even at Kids that hold themselves.
func valTypeIn(v Val, room int) (Type, bool) {
	if room == 0 {
		return Type{}, false
	}
	if len(v.Kids) == 0 {
		return Type{}, v.Num >= 0 && v.Num <= ValMax
	}
	if len(v.Kids) != 2 || v.Num != 0 {
		return Type{}, false
	}
	first, ok := valTypeIn(v.Kids[0], room-1)
	if !ok {
		return Type{}, false
	}
	second, ok := valTypeIn(v.Kids[1], room-1)
	if !ok {
		return Type{}, false
	}
	return Type{Kids: []Type{first, second}}, true
}

// valCopy copies a value of an ok type; a number is made anew, as its empty list may have spare room.
func valCopy(v Val) Val {
	if len(v.Kids) == 0 {
		return Val{Num: v.Num}
	}
	return Val{Kids: []Val{valCopy(v.Kids[0]), valCopy(v.Kids[1])}}
}

// valWith copies a value of an ok type, but for the part by a path that is there.
func valWith(v Val, path []int, part Val) Val {
	if len(path) == 0 {
		return valCopy(part)
	}
	if path[0] == 0 {
		return Val{Kids: []Val{valWith(v.Kids[0], path[1:], part), valCopy(v.Kids[1])}}
	}
	return Val{Kids: []Val{valCopy(v.Kids[0]), valWith(v.Kids[1], path[1:], part)}}
}

func valWrite(v Val) string {
	if len(v.Kids) == 0 {
		return strconv.Itoa(v.Num)
	}
	return "(" + valWrite(v.Kids[0]) + "," + valWrite(v.Kids[1]) + ")"
}
