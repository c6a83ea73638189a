package tests

import (
	"fmt"
	"math/rand"
	"slices"
	"strconv"
	"strings"
	"testing"

	"loop.example/handfast/impl"
)

// The rules of types of functions, said once more in another way: a type is its text, names are a row that is looked through from its end, and what is of no type panics.

func typeOfTerm(t impl.Term, r namedRow) string {
	kids := typesOfTerms(t.Kids, r)
	switch t.Kind {
	case 1:
		return "i"
	case 2:
		return r.find(t.Name)
	case 3, 4, 5:
		must(kids[0] == "i" && kids[1] == "i")
		return "i"
	case 6:
		text := "(" + kids[0] + "," + kids[1] + ")"
		must(deepText(text) <= 4)
		return text
	}
	from, to := findPart(kids[0], t.Path)
	if t.Kind == 7 {
		return kids[0][from:to]
	}
	must(kids[0][from:to] == kids[1])
	return kids[0]
}

func typesOfTerms(list []impl.Term, r namedRow) []string {
	var told []string
	for _, t := range list {
		told = append(told, typeOfTerm(t, r))
	}
	return told
}

func typesOfBody(list []impl.Pure, body impl.Body, r namedRow) []string {
	for _, b := range body.Binds {
		told := typesOfTerms(b.Terms, r)
		switch b.Kind {
		case 2:
			told = typesOfFn(list, b.Fn, told)
		case 3:
			must(told[0] == "i")
			told = typesOfBody(list, b.Then, r)
			must(slices.Equal(told, typesOfBody(list, b.Else, r)))
		}
		r = r.with(b.Names, told)
	}
	return typesOfTerms(body.Says, r)
}

func typesOfFn(list []impl.Pure, name string, given []string) []string {
	at := slices.IndexFunc(list, func(fn impl.Pure) bool { return fn.Name == name })
	return typesOfBody(list, list[at].Body, namedRow{}.with(list[at].Params, given))
}

// orNone is what tells words, or `none`, if something in it is of no type.
func orNone(tell func() string) (words string) {
	defer func() {
		if fault := recover(); fault != nil {
			if fault != any(failing{}) {
				panic(fault)
			}
			words = "none"
		}
	}()
	return tell()
}

// kindWords is what KindOf should answer of anything, in words.
func kindWords(list []impl.Pure, name string, types []impl.Type) string {
	at := slices.IndexFunc(list, func(fn impl.Pure) bool { return fn.Name == name })
	if !isPures(list) || at < 0 || len(types) != len(list[at].Params) || !areTypes(types) {
		return "none"
	}
	return orNone(func() string {
		return strings.Join(append([]string{"of"}, typesOfFn(list, name, textsOf(types))...), " ")
	})
}

// termKindWords is what KindTerm should answer of anything, in words.
func termKindWords(names []string, types []impl.Type, x impl.Term) string {
	if len(names) != len(types) || !isRow(names) || !areTypes(types) {
		return "none"
	}
	for _, s := range laidTerm(stands{x, 1, names, nil}) {
		if s.deep > 8 || !isTerm(s.what.(impl.Term), names) {
			return "none"
		}
	}
	return orNone(func() string { return "of " + typeOfTerm(x, namedRow{}.with(names, textsOf(types))) })
}

// areTypes says whether each is an ok type.
func areTypes(list []impl.Type) bool {
	return !slices.ContainsFunc(list, func(t impl.Type) bool { return !isType(t, 4) })
}

func isType(t impl.Type, deep int) bool {
	return len(t.Kids) == 0 && deep > 0 || len(t.Kids) == 2 && deep > 1 && isType(t.Kids[0], deep-1) && isType(t.Kids[1], deep-1)
}

func textsOf(list []impl.Type) []string {
	var texts []string
	for _, t := range list {
		texts = append(texts, typeText(t, 4))
	}
	return texts
}

// typesFrom is the types of texts.
func typesFrom(text string) []impl.Type {
	var list []impl.Type
	for _, v := range valsFrom(strings.ReplaceAll(text, "i", "0")) {
		list = append(list, typeOfVal(v))
	}
	return list
}

// typeOfVal is the type of a value that is of one.
func typeOfVal(v impl.Val) impl.Type {
	var t impl.Type
	for _, kid := range v.Kids {
		t.Kids = append(t.Kids, typeOfVal(kid))
	}
	return t
}

func typesOfVals(list []impl.Val) []impl.Type {
	var types []impl.Type
	for _, v := range list {
		types = append(types, typeOfVal(v))
	}
	return types
}

// noughts is a value of each type, of noughts.
func noughts(types []impl.Type) []impl.Val {
	var list []impl.Val
	for _, t := range types {
		list = append(list, fill(t, func() int { return 0 }))
	}
	return list
}

// ofWords tells what KindOf answered; it has no words of its own for types beside a false.
func ofWords(types []impl.Type, ok bool) string {
	words := strings.Join(append([]string{"of"}, textsOf(types)...), " ")
	switch {
	case ok:
		return words
	case len(types) == 0:
		return "none"
	}
	return words + " and none"
}

// oneOfWords tells what KindTerm answered.
func oneOfWords(t impl.Type, ok bool) string {
	switch {
	case ok:
		return "of " + typeText(t, 4)
	case len(t.Kids) == 0:
		return "none"
	}
	return "of " + typeText(t, 4) + " and none"
}

// mustKind asks for the types of what a function says, and holds these against words.
func mustKind(t *testing.T, list []impl.Pure, name string, types []impl.Type, want string) {
	t.Helper()
	if got := ofWords(impl.KindOf(list, name, types)); got != want {
		t.Fatalf("%.20q with %s is %s, it should be: %s, in\n%.2000s", name, inShort(textsOf(types)), got, want, impl.PureText(list))
	}
}

// mustKindTerm asks for the type of a term, and holds that against words.
func mustKindTerm(t *testing.T, names []string, types []impl.Type, x impl.Term, want string) {
	t.Helper()
	if got := oneOfWords(impl.KindTerm(names, types, x)); got != want {
		t.Fatalf("by %s of %s it is %s, it should be: %s: %s", inShort(names), inShort(textsOf(types)), got, want, sketch(x))
	}
}

// inShort is the first of some words.
func inShort(list []string) string {
	var words []string
	for _, word := range list[:min(len(list), 10)] {
		words = append(words, strconv.Quote(word[:min(len(word), 100)]))
	}
	return strings.Join(words, " ")
}

// sketch is what is known of any term, also of such as hold themselves.
func sketch(x impl.Term) string {
	for _, s := range laidTerm(stands{x, 1, nil, nil}) {
		if s.deep > 8 || len(s.what.(impl.Term).Kids) > 2 {
			return "a term that is too much to be told"
		}
	}
	return fmt.Sprintf("%.300s", fmt.Sprint(x))
}

// likelyTypes is mostly what a function is thought to take, and else something else.
func likelyTypes(r *rand.Rand, takes []impl.Type) []impl.Type {
	list := slices.Clone(takes)
	if len(list) > 0 && r.Intn(3) == 0 {
		some := typesUpTo(4)
		list[r.Intn(len(list))] = some[r.Intn(len(some))]
	}
	return list
}

// eachKind tells of each function of functions that are ok, and of types that it may be given.
func eachKind(t *testing.T, n int, tell func(list []impl.Pure, at int, types []impl.Type)) {
	t.Helper()
	r := rand.New(rand.NewSource(int64(n)))
	eachPure(t, n, func(list []impl.Pure, at int, args []impl.Val) {
		tell(list, at, likelyTypes(r, typesOfVals(args)))
	})
}

// eachTyped tells of terms, and of names and their types: as they were made for, of which a term mostly is of a type, and with another one among them.
func eachTyped(n int, tell func(names []string, types []impl.Type, x impl.Term)) {
	r := rand.New(rand.NewSource(int64(n)))
	m := &pureMaker{r: r}
	for range n {
		scope := typed{}
		types := m.someTypes(1 + r.Intn(5))
		names := m.someNames(len(types))
		for at, name := range names {
			scope[name] = types[at]
		}
		x := m.term(scope, m.someType(), 1+r.Intn(5))
		tell(names, types, x)
		tell(names, likelyTypes(r, types), x)
	}
}

// kindly counts what is of types, and what is of none.
type kindly map[bool]int

func (k kindly) enough(t *testing.T, typed int, none int) {
	t.Helper()
	if k[true] < typed || k[false] < none {
		t.Error("the test made too few that are of types, or of none:", k)
	}
}
