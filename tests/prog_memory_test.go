package tests

import (
	"reflect"
	"slices"
	"strings"
	"testing"
	"unsafe"

	"loop.example/handfast/impl"
)

// roomy is a copy whose lists, empty ones too, have spare room with something in it.
func roomy[T any](x T) T {
	return roomyInside(reflect.ValueOf(x)).Interface().(T)
}

func roomyInside(v reflect.Value) reflect.Value {
	other := reflect.New(v.Type()).Elem()
	other.Set(v)
	switch v.Kind() {
	case reflect.Slice:
		size := v.Len()
		other.Set(reflect.MakeSlice(v.Type(), size+2, size+2))
		for n := range size {
			other.Index(n).Set(roomyInside(v.Index(n)))
		}
		for n := size; n < size+2; n++ {
			other.Index(n).Set(spare(v.Type().Elem()))
		}
		other.SetLen(size)
	case reflect.Struct:
		for n := range v.NumField() {
			other.Field(n).Set(roomyInside(v.Field(n)))
		}
	}
	return other
}

// spare is something that is not nothing, for the room behind a list.
func spare(kind reflect.Type) reflect.Value {
	for _, x := range []any{7, num(77), let("spare", num(7)), to("spare"), has("spare", numberType), says("spare", nil, nil, numberType, num(7)), pairType(numberType, numberType), number(7), "spare", numTerm(77), bindTerm("spare", numTerm(7)), pure("spare", "", impl.Body{})} {
		if reflect.TypeOf(x) == kind {
			return reflect.ValueOf(x)
		}
	}
	panic(kind)
}

// wholeThing holds two things against each other with the spare room of all lists.
func wholeThing(a any, b any) bool {
	return wholeInside(reflect.ValueOf(a), reflect.ValueOf(b))
}

func wholeInside(a reflect.Value, b reflect.Value) bool {
	switch a.Kind() {
	case reflect.Slice:
		same := a.Len() == b.Len() && a.Cap() == b.Cap()
		for n := 0; same && n < a.Cap(); n++ {
			same = wholeInside(a.Slice(0, a.Cap()).Index(n), b.Slice(0, b.Cap()).Index(n))
		}
		return same
	case reflect.Struct:
		same := true
		for n := 0; same && n < a.NumField(); n++ {
			same = wholeInside(a.Field(n), b.Field(n))
		}
		return same
	}
	return a.Interface() == b.Interface()
}

// piece is where a list, with its spare room, or a text lies.
type piece struct {
	from uintptr
	to   uintptr
}

func pieces(v reflect.Value) []piece {
	var list []piece
	switch v.Kind() {
	case reflect.Slice:
		if v.Cap() > 0 {
			from := v.Pointer()
			list = append(list, piece{from, from + uintptr(v.Cap())*v.Type().Elem().Size()})
		}
		for n := range v.Cap() {
			list = append(list, pieces(v.Slice(0, v.Cap()).Index(n))...)
		}
	case reflect.Struct:
		for n := range v.NumField() {
			list = append(list, pieces(v.Field(n))...)
		}
	case reflect.String:
		list = append(list, pieceOfText(v.String())...)
	}
	return list
}

func pieceOfText(text string) []piece {
	if text == "" {
		return nil
	}
	from := uintptr(unsafe.Pointer(unsafe.StringData(text)))
	return []piece{{from, from + uintptr(len(text))}}
}

// overlap says whether two pieces share a byte.
func overlap(list []piece) bool {
	slices.SortFunc(list, func(a piece, b piece) int { return int(a.from) - int(b.from) })
	for n := 1; n < len(list); n++ {
		if list[n].from < list[n-1].to {
			return true
		}
	}
	return false
}

// What ProgRead answers lies in memory of its own: no two lists share any, and none of its names is a piece of the text.
func TestWhatIsReadSharesNothing(t *testing.T) {
	for _, p := range sampleProgs() {
		text := strings.Clone(impl.ProgWrite(p))
		got := mustRead(t, text)
		if overlap(append(pieces(reflect.ValueOf(got)), pieceOfText(text)...)) {
			t.Fatalf("what is read of %q shares memory", text)
		}
		other := mustRead(t, text)
		if overlap(append(pieces(reflect.ValueOf(got)), pieces(reflect.ValueOf(other))...)) {
			t.Fatalf("what is read twice of %q shares memory", text)
		}
	}
}

// Of a program's parts nothing is changed, nor behind their ends.
func TestWhatIsWrittenIsNotChanged(t *testing.T) {
	t.Parallel()
	for _, p := range sampleProgs() {
		arg := roomy(p)
		text := impl.ProgWrite(arg)
		if text != textOf(p) {
			t.Fatalf("what lies behind lists is told: %q", text)
		}
		if !wholeThing(arg, roomy(p)) {
			t.Fatalf("ProgWrite changed %+v", p)
		}
	}
	turn := 0
	for _, s := range samples() {
		p := copyOf(s.prog)
		changes(&p, func() {
			if turn++; turn%7 != 0 {
				return
			}
			arg := roomy(p)
			impl.ProgWrite(arg)
			if !wholeThing(arg, roomy(p)) {
				t.Fatalf("ProgWrite changed %+v", p)
			}
		})
	}
}

// Parts that stand twice in an argument, in one memory, are told twice.
func TestPartsThatShareMemory(t *testing.T) {
	path := []int{1, 0, 1, 0, 1}
	e := two(3, impl.Expr{Kind: 2, Place: impl.Place{Name: "p", Path: path[:2]}}, num(1))
	both := two(6, e, e)
	row := stmts(let("x", both), set(impl.Place{Name: "p", Path: path[:1]}, both))
	s := choose(both, row, row)
	p := fns(again(2, says("f", nil, stmts(s, s), numberType, both))...)
	kids := "+ @p.1.0 1"
	lines := "let x , " + kids + " " + kids + "\nset p.1 , " + kids + " " + kids + "\n"
	one := "if , " + kids + " " + kids + "\n" + lines + "else\n" + lines + "end\n"
	fn := "fn f\n" + one + one + "says i , " + kids + " " + kids + "\n"
	if got := impl.ProgWrite(p); got != fn+fn {
		t.Errorf("%q", got)
	}
	if !slices.Equal(path, []int{1, 0, 1, 0, 1}) {
		t.Error("the path is changed")
	}
}

// What is written into an answer is not seen by a later call.
func TestNothingIsKeptOfTexts(t *testing.T) {
	text := "fn f\nlent p (i,i)\nif @p.0\nset p.1 2\nelse\nend\nsays i + 1 2\n"
	p := mustRead(t, text)
	p.Fns[0].Params[0].Type.Kids[0] = p.Fns[0].Params[0].Type
	p.Fns[0].Body[0].Then[0].Place.Path[0] = 0
	p.Fns[0].Says.Kids[0].Num = 9
	p.Fns[0].Name = "g"
	q := mustRead(t, text)
	if impl.ProgWrite(q) != text {
		t.Error(impl.ProgWrite(q))
	}
	before := impl.ProgWrite(q)
	q.Fns[0].Says.Kids[0].Num = 9
	if before != text || impl.ProgWrite(q) != strings.Replace(text, "+ 1", "+ 9", 1) {
		t.Error(before, impl.ProgWrite(q))
	}
}

// endlessProgs is programs whose lists hold themselves, or are far too long.
func endlessProgs() []impl.Prog {
	kids := make([]impl.Expr, 2)
	for kind := range 2 {
		kids[kind] = impl.Expr{Kind: 3 + kind, Kids: kids}
	}
	row := make([]impl.Stmt, 40)
	for n := range row {
		row[n] = choose(num(1), row, row)
	}
	single := make([]impl.Stmt, 1)
	single[0] = choose(num(1), nil, single)
	nameless := make([]impl.Stmt, 1000)
	for n := range nameless {
		nameless[n] = impl.Stmt{Then: nameless, Else: nameless, Args: make([]impl.Arg, 1)}
	}
	wide := make([]impl.Stmt, 1<<16)
	args := make([]impl.Arg, 1<<16)
	for n := range args {
		args[n] = to("p")
		wide[n] = impl.Stmt{Kind: 4, Name: "x", Fn: "f", Args: args}
	}
	long := make([]impl.Param, 1<<16)
	list := []impl.Prog{
		around(row...), around(single...), around(nameless...), around(wide...), around(wide[:40]...), around(choose(num(1), wide, wide)),
		fns(says("f", long, nil, numberType, num(0))),
		fns(says("f", params(has("p", endlessType())), nil, numberType, num(0))),
		fns(says("f", nil, nil, endlessType(), num(0))),
		fns(gives("f", nil, nil, deepType(100000), place("p"))),
		fns(again(100000, says("f", nil, nil, numberType, num(0)))...),
		{Fns: make([]impl.Fn, 1<<16)},
	}
	for _, e := range []impl.Expr{{Kind: 3, Kids: kids}, {Kind: 9, Kids: kids}, {Kids: kids}, {Kind: 1, Kids: kids}, {Kind: 6, Kids: make([]impl.Expr, 1<<16)}, deepExpr(100000, 3, 0), deepExpr(100000, 6, 1), read("p", make([]int, 1<<20)...), read(strings.Repeat("p", 1<<20))} {
		for _, p := range withExpr(e) {
			list = append(list, p)
		}
	}
	return list
}

// Nothing panics, and all calls end, whatever they are given.
func TestNoPanicAtWrongPrograms(t *testing.T) {
	defer func() {
		if r := recover(); r != nil {
			t.Fatal("a panic:", r)
		}
	}()
	for n, p := range endlessProgs() {
		if got := impl.ProgWrite(p); got != "" {
			t.Errorf("program %d: %.300q", n, got)
		}
	}
}
