package tests

import (
	"math"
	"math/rand"
	"reflect"
	"regexp"
	"strconv"
	"strings"
	"testing"

	"loop.example/handfast/impl"
)

func place(name string, path ...int) impl.Place {
	return impl.Place{Name: name, Path: path}
}

func num(n int) impl.Expr {
	return impl.Expr{Kind: 1, Num: n}
}

func read(name string, path ...int) impl.Expr {
	return impl.Expr{Kind: 2, Place: place(name, path...)}
}

func two(kind int, a impl.Expr, b impl.Expr) impl.Expr {
	return impl.Expr{Kind: kind, Kids: []impl.Expr{a, b}}
}

func to(name string, path ...int) impl.Arg {
	return impl.Arg{Lent: true, Place: place(name, path...)}
}

func of(e impl.Expr) impl.Arg {
	return impl.Arg{Expr: e}
}

func let(name string, e impl.Expr) impl.Stmt {
	return impl.Stmt{Kind: 1, Name: name, Expr: e}
}

func lend(name string, p impl.Place) impl.Stmt {
	return impl.Stmt{Kind: 2, Name: name, Place: p}
}

func set(p impl.Place, e impl.Expr) impl.Stmt {
	return impl.Stmt{Kind: 3, Place: p, Expr: e}
}

func call(name string, fn string, args ...impl.Arg) impl.Stmt {
	return impl.Stmt{Kind: 4, Name: name, Fn: fn, Args: args}
}

func choose(e impl.Expr, yes []impl.Stmt, no []impl.Stmt) impl.Stmt {
	return impl.Stmt{Kind: 5, Expr: e, Then: yes, Else: no}
}

func pick(name string, p impl.Place, other impl.Place, e impl.Expr) impl.Stmt {
	return impl.Stmt{Kind: 6, Name: name, Place: p, Other: other, Expr: e}
}

func stmts(list ...impl.Stmt) []impl.Stmt {
	return list
}

func params(list ...impl.Param) []impl.Param {
	return list
}

func has(name string, t impl.Type) impl.Param {
	return impl.Param{Name: name, Type: t}
}

func lent(name string, t impl.Type) impl.Param {
	return impl.Param{Name: name, Lent: true, Type: t}
}

// says is a function that says an expression of a type, gives one that gives out a place.
func says(name string, list []impl.Param, body []impl.Stmt, t impl.Type, e impl.Expr) impl.Fn {
	return impl.Fn{Name: name, Params: list, Type: t, Body: body, Says: e}
}

func gives(name string, list []impl.Param, body []impl.Stmt, t impl.Type, p impl.Place) impl.Fn {
	return impl.Fn{Name: name, Params: list, Lent: true, Type: t, Body: body, Gives: p}
}

func fns(list ...impl.Fn) impl.Prog {
	return impl.Prog{Fns: list}
}

// around is a program of one function that says 0 behind these statements.
func around(body ...impl.Stmt) impl.Prog {
	return fns(says("f", nil, body, numberType, num(0)))
}

// again is a statement, or a parameter, so many times.
func again[T any](n int, x T) []T {
	var list []T
	for ; n > 0; n-- {
		list = append(list, x)
	}
	return list
}

// written is a program, and what it is written as; read off the document by hand.
type written struct {
	prog impl.Prog
	text string
}

func samples() []written {
	i := numberType
	ii := pairType(i, i)
	return []written{
		{fns(), ""},
		{around(), "fn f\nsays i 0\n"},
		{fns(gives("give", params(lent("p", i)), nil, i, place("p"))), "fn give\nlent p i\ngives i p\n"},
		{fns(says("a", params(lent("p", pairType(ii, i)), has("n", i), has("m", ii)), nil, ii, two(6, read("n"), num(7)))), "fn a\nlent p ((i,i),i)\nhas n i\nhas m (i,i)\nsays (i,i) , @n 7\n"},
		{around(let("abcdef", num(9999)), let("v", read("abcdef", 1, 0, 1, 1))), "fn f\nlet abcdef 9999\nlet v @abcdef.1.0.1.1\nsays i 0\n"},
		{around(let("x", two(3, num(1), num(2))), let("y", two(4, num(30), read("x"))), let("z", two(5, read("x", 0), num(0))), let("w", two(6, read("x"), read("y")))), "fn f\nlet x + 1 2\nlet y - 30 @x\nlet z < @x.0 0\nlet w , @x @y\nsays i 0\n"},
		{around(let("x", two(3, two(4, num(1), two(5, num(2), num(3))), two(6, two(3, num(4), num(5)), num(6))))), "fn f\nlet x + - 1 < 2 3 , + 4 5 6\nsays i 0\n"},
		{around(lend("r", place("p")), lend("s", place("r", 0, 1))), "fn f\nlend r p\nlend s r.0.1\nsays i 0\n"},
		{around(set(place("r"), num(4)), set(place("r", 1), two(3, read("n"), read("v", 0)))), "fn f\nset r 4\nset r.1 + @n @v.0\nsays i 0\n"},
		{around(call("x", "g"), call("y", "g", to("p")), call("z", "h", of(num(3))), call("w", "k", to("p", 0), of(two(3, num(1), read("q"))), to("q", 1, 1), of(read("n", 0)))), "fn f\ncall x g\ncall y g to p\ncall z h of 3\ncall w k to p.0 of + 1 @q to q.1.1 of @n.0\nsays i 0\n"},
		{around(pick("s", place("p", 1), place("v"), two(5, read("n"), num(3))), pick("t", place("p"), place("v", 0, 0), num(1))), "fn f\npick s p.1 v < @n 3\npick t p v.0.0 1\nsays i 0\n"},
		{around(choose(num(1), nil, nil)), "fn f\nif 1\nelse\nend\nsays i 0\n"},
		{around(choose(read("n"), stmts(let("a", num(1))), nil), choose(read("n"), nil, stmts(let("b", num(2)))), let("c", num(3))), "fn f\nif @n\nlet a 1\nelse\nend\nif @n\nelse\nlet b 2\nend\nlet c 3\nsays i 0\n"},
		{around(choose(num(1), stmts(choose(num(2), stmts(let("a", num(3))), stmts(let("b", num(4)))), let("c", num(5))), stmts(let("d", num(6)), choose(num(7), nil, stmts(choose(num(8), stmts(let("e", num(9))), nil)))))), "fn f\nif 1\nif 2\nlet a 3\nelse\nlet b 4\nend\nlet c 5\nelse\nlet d 6\nif 7\nelse\nif 8\nlet e 9\nelse\nend\nend\nend\nsays i 0\n"},
		{fns(gives("a", params(lent("p", ii), has("n", i)), stmts(lend("q", place("p", 0)), set(place("q"), two(3, read("q"), read("n")))), i, place("p", 1)), says("b", params(lent("q", ii)), stmts(call("r", "a", to("q"), of(num(5))), set(place("r"), num(6))), i, read("q", 1))), "fn a\nlent p (i,i)\nhas n i\nlend q p.0\nset q + @q @n\ngives i p.1\nfn b\nlent q (i,i)\ncall r a to q of 5\nset r 6\nsays i @q.1\n"},
		{fns(says("let", params(has("fn", i), lent("has", i)), stmts(let("else", read("end")), lend("lend", place("lent")), call("call", "says", to("to"), of(read("of"))), choose(read("if"), stmts(set(place("set"), num(0))), stmts(pick("pick", place("else"), place("end"), num(1))))), i, read("gives"))), "fn let\nhas fn i\nlent has i\nlet else @end\nlend lend lent\ncall call says to to of @of\nif @if\nset set 0\nelse\npick pick else end 1\nend\nsays i @gives\n"},
		{fns(says("f", again(2, has("p", i)), nil, i, num(0)), says("f", nil, nil, ii, num(1))), "fn f\nhas p i\nhas p i\nsays i 0\nfn f\nsays (i,i) 1\n"},
	}
}

// sameThing holds two things against each other; the empty list and the nil list are the same.
func sameThing(a any, b any) bool {
	return sameInside(reflect.ValueOf(a), reflect.ValueOf(b))
}

func sameInside(a reflect.Value, b reflect.Value) bool {
	switch a.Kind() {
	case reflect.Slice:
		same := a.Len() == b.Len()
		for n := 0; same && n < a.Len(); n++ {
			same = sameInside(a.Index(n), b.Index(n))
		}
		return same
	case reflect.Struct:
		same := true
		for n := 0; same && n < a.NumField(); n++ {
			same = sameInside(a.Field(n), b.Field(n))
		}
		return same
	}
	return a.Interface() == b.Interface()
}

// copyOf is a copy that shares no list.
func copyOf[T any](x T) T {
	return copyInside(reflect.ValueOf(x)).Interface().(T)
}

func copyInside(v reflect.Value) reflect.Value {
	other := reflect.New(v.Type()).Elem()
	other.Set(v)
	switch v.Kind() {
	case reflect.Slice:
		other.SetZero()
		for n := range v.Len() {
			other.Set(reflect.Append(other, copyInside(v.Index(n))))
		}
	case reflect.Struct:
		for n := range v.NumField() {
			other.Field(n).Set(copyInside(v.Field(n)))
		}
	}
	return other
}

// The rules of texts, said once more in another way: a rule a line, and what may follow what.
const (
	nameRule  = `[a-z]{1,6}`
	placeRule = nameRule + `(?:\.[01]){0,4}`
	plainRule = `(?:0|[1-9][0-9]{0,3}|@` + placeRule + `)`
)

func typeRule(deep int) string {
	if deep == 1 {
		return `i`
	}
	kid := typeRule(deep - 1)
	return `(?:i|\(` + kid + `,` + kid + `\))`
}

func exprRule(deep int) string {
	if deep == 1 {
		return plainRule
	}
	kid := exprRule(deep - 1)
	return `(?:` + plainRule + `|[-+<,] ` + kid + ` ` + kid + `)`
}

func rule(text string) *regexp.Regexp {
	return regexp.MustCompile(`^` + text + `$`)
}

var (
	nameLine   = rule(nameRule)
	fnLine     = rule(`fn ` + nameRule)
	paramLine  = rule(`(?:has|lent) ` + nameRule + ` ` + typeRule(4))
	endingLine = rule(`(?:says ` + typeRule(4) + ` ` + exprRule(4) + `|gives ` + typeRule(4) + ` ` + placeRule + `)`)
	ifLine     = rule(`if ` + exprRule(4))
	stmtLine   = rule(`(?:let ` + nameRule + ` ` + exprRule(4) + `|lend ` + nameRule + ` ` + placeRule + `|set ` + placeRule + ` ` + exprRule(4) + `|call ` + nameRule + ` ` + nameRule + `(?: to ` + placeRule + `| of ` + exprRule(4) + `){0,4}|pick ` + nameRule + ` ` + placeRule + ` ` + placeRule + ` ` + exprRule(4) + `)`)
)

// isText says whether a text is that of a program.
func isText(text string) bool {
	return len(text) <= 6000 && isLines(text)
}

// isLines says whether a text is what a program in form is written as, however long that is.
func isLines(text string) bool {
	if text == "" {
		return true
	}
	if !strings.HasSuffix(text, "\n") {
		return false
	}
	lines := strings.Split(strings.TrimSuffix(text, "\n"), "\n")
	for n := 0; len(lines) > 0; n++ {
		size := fnSize(lines)
		if n == 5 || size == 0 {
			return false
		}
		lines = lines[size:]
	}
	return true
}

// fnSize is how many lines the function has that these begin with; 0, if they begin with none.
func fnSize(lines []string) int {
	if !fnLine.MatchString(lines[0]) {
		return 0
	}
	params, count := 0, 0
	var open []string // of each choice that has not ended yet, what it waits for
	for n, line := range lines[1:] {
		top := ""
		if len(open) > 0 {
			top = open[len(open)-1]
		}
		switch {
		case paramLine.MatchString(line) && count == 0:
			params++
		case ifLine.MatchString(line) && len(open) < 4:
			count++
			open = append(open, "else")
		case stmtLine.MatchString(line) && len(open) < 4:
			count++
		case line == "else" && top == "else":
			open[len(open)-1] = "end"
		case line == "end" && top == "end":
			open = open[:len(open)-1]
		case endingLine.MatchString(line) && len(open) == 0 && params <= 4 && count <= 40:
			return n + 2
		default:
			return 0
		}
	}
	return 0
}

// wrong stands in a text for what is not in form; no text has it.
const wrong = "!"

func textOf(p impl.Prog) string {
	var b strings.Builder
	for _, fn := range p.Fns {
		b.WriteString("fn " + nameText(fn.Name) + "\n")
		for _, param := range fn.Params {
			b.WriteString(map[bool]string{false: "has ", true: "lent "}[param.Lent] + nameText(param.Name) + " " + typeText(param.Type, 5) + "\n")
		}
		rowText(&b, fn.Body, 5)
		if fn.Lent {
			b.WriteString("gives " + typeText(fn.Type, 5) + " " + placeText(fn.Gives) + beside(fn.Says) + "\n")
		} else {
			b.WriteString("says " + typeText(fn.Type, 5) + " " + exprText(fn.Says, 5) + beside(fn.Gives) + "\n")
		}
	}
	return b.String()
}

// formText is what ProgWrite should answer.
func formText(p impl.Prog) string {
	if text := textOf(p); isText(text) {
		return text
	}
	return ""
}

func beside(things ...any) string {
	for _, x := range things {
		if !sameThing(x, reflect.Zero(reflect.TypeOf(x)).Interface()) {
			return wrong
		}
	}
	return ""
}

func nameText(name string) string {
	if nameLine.MatchString(name) {
		return name
	}
	return wrong
}

// typeText has room for one pair more than is ok, so that it shows.
func typeText(t impl.Type, room int) string {
	if len(t.Kids) == 0 {
		return "i"
	}
	if len(t.Kids) != 2 || room == 0 {
		return wrong
	}
	return "(" + typeText(t.Kids[0], room-1) + "," + typeText(t.Kids[1], room-1) + ")"
}

func placeText(p impl.Place) string {
	text := nameText(p.Name)
	for _, n := range p.Path {
		text += "." + strconv.Itoa(n)
	}
	return text
}

func exprText(e impl.Expr, room int) string {
	switch {
	case room == 0:
		return wrong
	case e.Kind == 1:
		return strconv.Itoa(e.Num) + beside(e.Place, e.Kids)
	case e.Kind == 2:
		return "@" + placeText(e.Place) + beside(e.Num, e.Kids)
	case e.Kind < 1 || e.Kind > 6 || len(e.Kids) != 2:
		return wrong
	}
	return "  +-<,"[e.Kind-1:e.Kind] + " " + exprText(e.Kids[0], room-1) + " " + exprText(e.Kids[1], room-1) + beside(e.Num, e.Place)
}

func argText(a impl.Arg) string {
	if a.Lent {
		return " to " + placeText(a.Place) + beside(a.Expr)
	}
	return " of " + exprText(a.Expr, 5) + beside(a.Place)
}

func rowText(b *strings.Builder, list []impl.Stmt, room int) {
	if room == 0 && len(list) > 0 {
		b.WriteString(wrong)
		return
	}
	for _, s := range list {
		switch s.Kind {
		case 1:
			b.WriteString("let " + nameText(s.Name) + " " + exprText(s.Expr, 5) + beside(s.Place, s.Other, s.Fn, s.Args, s.Then, s.Else))
		case 2:
			b.WriteString("lend " + nameText(s.Name) + " " + placeText(s.Place) + beside(s.Other, s.Expr, s.Fn, s.Args, s.Then, s.Else))
		case 3:
			b.WriteString("set " + placeText(s.Place) + " " + exprText(s.Expr, 5) + beside(s.Name, s.Other, s.Fn, s.Args, s.Then, s.Else))
		case 4:
			b.WriteString("call " + nameText(s.Name) + " " + nameText(s.Fn) + beside(s.Place, s.Other, s.Expr, s.Then, s.Else))
			for _, arg := range s.Args {
				b.WriteString(argText(arg))
			}
		case 5:
			b.WriteString("if " + exprText(s.Expr, 5) + beside(s.Name, s.Place, s.Other, s.Fn, s.Args) + "\n")
			rowText(b, s.Then, room-1)
			b.WriteString("else\n")
			rowText(b, s.Else, room-1)
			b.WriteString("end")
		case 6:
			b.WriteString("pick " + nameText(s.Name) + " " + placeText(s.Place) + " " + placeText(s.Other) + " " + exprText(s.Expr, 5) + beside(s.Fn, s.Args, s.Then, s.Else))
		default:
			b.WriteString(wrong)
		}
		b.WriteString("\n")
	}
}

// changes goes through a program, and changes one thing of it at a time; each is changed back then.
func changes(p *impl.Prog, look func()) {
	changesOf(p, look)
}

// changesOf goes likewise through anything.
func changesOf[T any](x *T, look func()) {
	changesInside(reflect.ValueOf(x).Elem(), look)
}

func changesInside(v reflect.Value, look func()) {
	try := func(other reflect.Value) {
		old := reflect.New(v.Type()).Elem()
		old.Set(v)
		v.Set(other)
		look()
		v.Set(old)
	}
	switch v.Kind() {
	case reflect.Int:
		for _, n := range []int{math.MinInt, -1, 0, 1, 2, 3, 4, 5, 6, 7, 9999, 10000, math.MaxInt} {
			try(reflect.ValueOf(n))
		}
	case reflect.String:
		for _, text := range []string{"", "a", "q", "abcdef", "abcdefg", "A", "aZ", "`", "{", "a1", "a.0", "a b", "a\n", "\n", " ", "ä", "\x00", "\xff"} {
			try(reflect.ValueOf(text))
		}
	case reflect.Bool:
		try(reflect.ValueOf(!v.Bool()))
	case reflect.Struct:
		for n := range v.NumField() {
			changesInside(v.Field(n), look)
		}
	case reflect.Slice:
		for n := range v.Len() {
			changesInside(v.Index(n), look)
		}
		for _, other := range otherLists(v) {
			try(other)
		}
	}
}

// otherLists is a list with one thing more, or less, or none at all.
func otherLists(v reflect.Value) []reflect.Value {
	empty := reflect.MakeSlice(v.Type(), 0, 3)
	list := []reflect.Value{reflect.Zero(v.Type()), empty}
	more := []reflect.Value{reflect.Zero(v.Type().Elem())}
	for _, x := range []any{1, num(1), read("a"), two(3, num(1), num(2)), let("a", num(1)), choose(num(1), nil, nil), to("a"), of(num(1)), has("a", numberType), lent("a", numberType), says("a", nil, nil, numberType, num(1)), pairType(numberType, numberType), "a", numTerm(1), nameTerm("a"), bindTerm("a", numTerm(1)), bindIf(nil, numTerm(1), impl.Body{}, impl.Body{}), pure("a", "", impl.Body{})} {
		if reflect.TypeOf(x) == v.Type().Elem() {
			more = append(more, reflect.ValueOf(x))
		}
	}
	for _, x := range more {
		list = append(list, reflect.Append(copyInside(v), x), reflect.AppendSlice(reflect.Append(empty, x), v))
	}
	if v.Len() > 0 {
		list = append(list, v.Slice(0, v.Len()-1), v.Slice(1, v.Len()), reflect.AppendSlice(copyInside(v), v))
	}
	return list
}

// anyProg makes a program in form by a source of numbers that is the same each time.
func anyProg(r *rand.Rand) impl.Prog {
	var p impl.Prog
	for n := r.Intn(6); n > 0; n-- {
		fn := impl.Fn{Name: anyName(r), Type: anyType(r), Lent: r.Intn(2) == 0}
		for n := r.Intn(5); n > 0; n-- {
			fn.Params = append(fn.Params, impl.Param{Name: anyName(r), Lent: r.Intn(2) == 0, Type: anyType(r)})
		}
		room := r.Intn(20)
		fn.Body = anyStmts(r, 4, &room)
		if fn.Lent {
			fn.Gives = anyPlace(r)
		} else {
			fn.Says = anyExpr(r, 4)
		}
		p.Fns = append(p.Fns, fn)
	}
	return p
}

func anyName(r *rand.Rand) string {
	text := ""
	for n := 1 + r.Intn(6); n > 0; n-- {
		text += string(rune('a' + r.Intn(26)))
	}
	return text
}

func anyType(r *rand.Rand) impl.Type {
	list := okTypes()
	return list[r.Intn(len(list))]
}

func anyPlace(r *rand.Rand) impl.Place {
	p := place(anyName(r))
	for n := r.Intn(5); n > 0; n-- {
		p.Path = append(p.Path, r.Intn(2))
	}
	return p
}

func anyExpr(r *rand.Rand, deep int) impl.Expr {
	switch kind := 1 + r.Intn(6); {
	case kind == 1 || deep == 1:
		return num(r.Intn(10000))
	case kind == 2:
		return impl.Expr{Kind: 2, Place: anyPlace(r)}
	default:
		return two(kind, anyExpr(r, deep-1), anyExpr(r, deep-1))
	}
}

func anyStmts(r *rand.Rand, deep int, room *int) []impl.Stmt {
	var list []impl.Stmt
	for *room > 0 && deep > 0 && r.Intn(5) > 0 {
		*room--
		list = append(list, anyStmt(r, deep, room))
	}
	return list
}

func anyStmt(r *rand.Rand, deep int, room *int) impl.Stmt {
	switch 1 + r.Intn(6) {
	case 1:
		return let(anyName(r), anyExpr(r, 4))
	case 2:
		return lend(anyName(r), anyPlace(r))
	case 3:
		return set(anyPlace(r), anyExpr(r, 4))
	case 4:
		s := call(anyName(r), anyName(r))
		for n := r.Intn(5); n > 0; n-- {
			if r.Intn(2) == 0 {
				s.Args = append(s.Args, impl.Arg{Lent: true, Place: anyPlace(r)})
			} else {
				s.Args = append(s.Args, of(anyExpr(r, 4)))
			}
		}
		return s
	case 5:
		return choose(anyExpr(r, 4), anyStmts(r, deep-1, room), anyStmts(r, deep-1, room))
	}
	return pick(anyName(r), anyPlace(r), anyPlace(r), anyExpr(r, 4))
}

// anyProgs is so many of them that have texts.
func anyProgs(n int) []impl.Prog {
	r := rand.New(rand.NewSource(5))
	var list []impl.Prog
	for len(list) < n {
		if p := anyProg(r); len(textOf(p)) <= 6000 {
			list = append(list, p)
		}
	}
	return list
}

// sampleProgs is all programs by hand, and such by numbers.
func sampleProgs() []impl.Prog {
	var list []impl.Prog
	for _, s := range samples() {
		list = append(list, s.prog)
	}
	return append(list, anyProgs(300)...)
}

// mustRead is for texts of programs.
func mustRead(t *testing.T, text string) impl.Prog {
	t.Helper()
	p, ok := impl.ProgRead(text)
	if !ok {
		t.Fatalf("ProgRead %q: false", text)
	}
	return p
}

// refused checks that a text is that of no program.
func refused(t *testing.T, text string) {
	t.Helper()
	if p, ok := impl.ProgRead(text); ok || !sameThing(p, impl.Prog{}) {
		t.Errorf("ProgRead %.300q: %v %+v, no program has that text", text, ok, p)
	}
}

// taken checks that a program is in form: it has this text, which is read back.
func taken(t *testing.T, what string, p impl.Prog) {
	t.Helper()
	want := textOf(p)
	if got := impl.ProgWrite(p); got != want {
		t.Errorf("%s: ProgWrite is %.300q, not %.300q", what, got, want)
	}
	if got, ok := impl.ProgRead(want); !ok || !sameThing(got, p) {
		t.Errorf("%s: ProgRead %.300q: %v %+v", what, want, ok, got)
	}
}

// notTaken checks that a program is not in form; what it would be written as is no text.
func notTaken(t *testing.T, what string, p impl.Prog) {
	t.Helper()
	if got := impl.ProgWrite(p); got != "" {
		t.Errorf("%s: ProgWrite is %.300q, but it is not in form", what, got)
	}
	if text := textOf(p); !strings.Contains(text, wrong) {
		refused(t, text)
	}
}
