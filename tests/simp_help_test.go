package tests

import (
	"math/rand"
	"slices"
	"strconv"
	"strings"
	"testing"

	"loop.example/handfast/impl"
)

// How terms are made simpler, said once more in another way: a term is its words, and a rule takes words out of them; the rules are looked for from the first word on, so that the outer terms come first. Names have a sign ahead there, so that none is written as something else is.

func marked(name string) impl.Term {
	return nameTerm("'" + name)
}

func unmarked(name string) impl.Term {
	return nameTerm(name[1:])
}

// wordHas is what a word begins with, its path, and how many terms come behind it.
func wordHas(word string) (string, string, int) {
	head, _, _ := strings.Cut(word, ".")
	path := strings.TrimPrefix(word, head)
	switch head {
	case "at":
		return head, path, 1
	case "put", "+", "-", "<", ",":
		return head, path, 2
	}
	return head, path, 0
}

// termIn is the words of the term that begins at one of them, and those behind it.
func termIn(words []string) ([]string, []string) {
	end := 0
	for need := 1; need > 0; end++ {
		_, _, kids := wordHas(words[end])
		need += kids - 1
	}
	return words[:end], words[end:]
}

// lessWords is the words of a term, if the first rule that holds is asked at its first word alone.
func lessWords(words []string) ([]string, bool) {
	head, path, kids := wordHas(words[0])
	if kids == 0 {
		return nil, false
	}
	first, rest := termIn(words[1:])
	switch head {
	case "at":
		return lessOfPart(path, first)
	case "put":
		return lessOfPut(path, first, rest)
	}
	return lessOfNumbers(head, first, rest)
}

func isNumberWord(words []string) (int, bool) {
	n, err := strconv.Atoi(words[0])
	return n, err == nil && len(words) == 1
}

func lessOfNumbers(head string, first []string, second []string) ([]string, bool) {
	a, isA := isNumberWord(first)
	b, isB := isNumberWord(second)
	n := map[string]int{"+": a + b, "-": a - b, "<": max(0, min(1, b-a)), ",": -1}[head]
	return []string{strconv.Itoa(n)}, isA && isB && n >= 0 && n <= 9999
}

func lessOfPart(path string, kid []string) ([]string, bool) {
	if path == "" {
		return kid, true
	}
	head, inner, kids := wordHas(kid[0])
	if kids == 0 {
		return nil, false
	}
	first, second := termIn(kid[1:])
	begins, begun := strings.HasPrefix(path, inner), strings.HasPrefix(inner, path)
	switch {
	case head == "at":
		return slices.Concat([]string{"at" + inner + path}, first), true
	case head == "," && path[1] == '0' && len(second) == 1:
		return slices.Concat([]string{"at" + path[2:]}, first), true
	case head == "," && path[1] == '1' && len(first) == 1:
		return slices.Concat([]string{"at" + path[2:]}, second), true
	case head == "put" && begins && len(first) == 1:
		return slices.Concat([]string{"at" + path[len(inner):]}, second), true
	case head == "put" && !begins && !begun && len(second) == 1:
		return slices.Concat([]string{"at" + path}, first), true
	}
	return nil, false
}

func lessOfPut(path string, first []string, second []string) ([]string, bool) {
	if path == "" && len(first) == 1 {
		return second, true
	}
	if first[0] != "put"+path {
		return nil, false
	}
	inner, lost := termIn(first[1:])
	return slices.Concat([]string{"put" + path}, inner, second), len(lost) == 1
}

// fewestWords is the words of a term when no rule holds anywhere any more.
func fewestWords(words []string) []string {
	for at := 0; at < len(words); at++ {
		whole, behind := termIn(words[at:])
		if less, ok := lessWords(whole); ok {
			words = slices.Concat(words[:at], less, behind)
			at = -1
		}
	}
	return words
}

// isOwnTerm says whether a term is ok by its own names.
func isOwnTerm(x impl.Term) bool {
	for _, s := range laidTerm(stands{x, 1, nil, nil}) {
		one := s.what.(impl.Term)
		if s.deep > 8 || !isTerm(one, []string{one.Name}) || one.Kind == 2 && !isRow([]string{one.Name}) {
			return false
		}
	}
	return true
}

// simpOf is what SimpTerm should answer of anything.
func simpOf(x impl.Term) impl.Term {
	if !isOwnTerm(x) {
		return impl.Term{}
	}
	words := fewestWords(strings.Fields(termWords(inTerms(terms(x), marked)[0])))
	for _, word := range words {
		if strings.Count(word, ".") > 4 {
			return x
		}
	}
	told, _ := termFrom(words)
	return inTerms(terms(told), unmarked)[0]
}

// simpFns is what SimpOf should answer of anything.
func simpFns(list []impl.Pure) []impl.Pure {
	if !isPures(list) {
		return nil
	}
	list = copyOf(list)
	for n := range list {
		eachTermIn(&list[n].Body, func(x *impl.Term) { *x = simpOf(*x) })
	}
	return list
}

// eachTermIn tells of each term of a body, and of all bodies in it, but not of those that are in other terms.
func eachTermIn(body *impl.Body, tell func(*impl.Term)) {
	eachIn(body, func(b *impl.Body) {
		for n := range b.Binds {
			for at := range b.Binds[n].Terms {
				tell(&b.Binds[n].Terms[at])
			}
		}
		for at := range b.Says {
			tell(&b.Says[at])
		}
	})
}

// simpSize is what SimpSize should answer of anything.
func simpSize(list []impl.Pure) int {
	if !isPures(list) {
		return -1
	}
	size := 0
	for _, s := range laidOut(list) {
		if _, ok := s.what.(impl.Term); ok {
			size++
		}
	}
	return size
}

// mustSimp holds SimpTerm of anything against the rules that are told in another way.
func mustSimp(t *testing.T, x impl.Term) impl.Term {
	t.Helper()
	got, want := impl.SimpTerm(x), simpOf(x)
	if !sameThing(got, want) {
		t.Fatalf("made simpler it is\n%s, it should be\n%s, of\n%s", sketch(got), sketch(want), sketch(x))
	}
	return got
}

// mustSimpFns holds SimpOf and SimpSize of anything against the rules that are told in another way.
func mustSimpFns(t *testing.T, list []impl.Pure) []impl.Pure {
	t.Helper()
	got, want := impl.SimpOf(list), simpFns(list)
	if !sameThing(got, want) {
		t.Fatalf("made simpler it is\n%sit should be\n%sof\n%s", impl.PureText(got), puresText(want), puresText(list))
	}
	for _, fns := range [][]impl.Pure{list, got} {
		if size := impl.SimpSize(fns); size != simpSize(fns) {
			t.Fatalf("there are %d terms, not %d, in\n%s", size, simpSize(fns), puresText(fns))
		}
	}
	return got
}

// stays says whether a term stays as it was.
func stays(x impl.Term) bool {
	return sameThing(impl.SimpTerm(x), x)
}

// simpCase is a term, and what it is when it is made simpler.
type simpCase struct {
	term string
	want string
}

// simpAll holds terms against what they are made simpler as, to the letter; and makes them simpler in a binding, and what is simpler once more.
func simpAll(t *testing.T, list []simpCase) {
	t.Helper()
	for _, c := range list {
		x := termsFrom(strings.Fields(c.term))[0]
		if got := termWords(mustSimp(t, x)); got != c.want {
			t.Errorf("made simpler it is %q, it should be %q, of %q", got, c.want, c.term)
			continue
		}
		if got := termWords(impl.SimpTerm(impl.SimpTerm(x))); got != c.want {
			t.Errorf("made simpler twice it is %q, it should be %q", got, c.want)
		}
		fn := pure("f", "a b c d", saying(terms(nameTerm("a")), bindTerm("a", x)))
		want := "f a b c d\n a = " + c.want + "\n say a\n"
		if got := impl.PureText(mustSimpFns(t, []impl.Pure{fn})); got != want {
			t.Errorf("made simpler it is %q, it should be %q", got, want)
		}
	}
}

// simpSame is terms that stay as they were.
func simpSame(t *testing.T, list ...string) {
	t.Helper()
	for _, text := range list {
		simpAll(t, []simpCase{{text, text}})
	}
}

// folded is mostly a term of a type that may be made simpler.
func (m *pureMaker) folded(scope typed, kind impl.Type, deep int) impl.Term {
	way := m.r.Intn(7)
	switch {
	case way == 0 && len(kind.Kids) == 0:
		return twoTerm(3+m.r.Intn(3), numTerm(anyNumber(m.r)), numTerm(anyNumber(m.r)))
	case way <= 1:
		path, part := m.somePart(kind)
		return putTerm(putTerm(m.term(scope, kind, deep-1), m.term(scope, part, deep-1), path...), m.term(scope, part, deep), path...)
	case way == 2:
		return putTerm(m.term(scope, kind, deep), m.term(scope, kind, deep))
	}
	whole, path := m.wider(kind)
	if way >= 5 {
		return atTerm(m.term(scope, whole, deep), path...)
	}
	other, part := m.somePart(whole)
	return atTerm(putTerm(m.term(scope, whole, deep-1), m.term(scope, part, deep-1), other...), path...)
}

func (m *pureMaker) somePart(kind impl.Type) ([]int, impl.Type) {
	paths := partPaths(kind)
	path := paths[m.r.Intn(len(paths))]
	part, _ := partType(kind, path)
	return path, part
}

// wider is a type, and the path by which another one is a part of it.
func (m *pureMaker) wider(kind impl.Type) (impl.Type, []int) {
	var path []int
	for range m.r.Intn(3) {
		if deepOf(kind) == 4 {
			break
		}
		other := typesUpTo(2)[m.r.Intn(2)]
		at := m.r.Intn(2)
		path = append([]int{at}, path...)
		kind = []impl.Type{pairType(kind, other), pairType(other, kind)}[at]
	}
	return kind, path
}

// makeFolded is functions that are ok, with many terms that may be made simpler, and the types of what each takes. Terms that are of a wrong type may grow too deep, now and then.
func makeFolded(r *rand.Rand) ([]impl.Pure, [][]impl.Type) {
	for {
		m := &pureMaker{r: r, folds: 2}
		for range 1 + r.Intn(4) {
			m.fn()
		}
		if isPures(m.list) {
			return m.list, m.takes
		}
	}
}

// eachFolded tells of each function of such some runs.
func eachFolded(n int, tell func(list []impl.Pure, at int, args []impl.Val)) {
	r := rand.New(rand.NewSource(int64(n)))
	for range n {
		list, takes := makeFolded(r)
		for at := range list {
			for range 3 {
				tell(list, at, anyVals(r, takes[at]))
			}
		}
	}
}

// eachFoldedTerm tells of terms, most of which are of a type, and may be made simpler, and of names and their types.
func eachFoldedTerm(n int, tell func(names []string, types []impl.Type, x impl.Term)) {
	r := rand.New(rand.NewSource(int64(n)))
	m := &pureMaker{r: r, folds: 2}
	for range n {
		scope := typed{}
		types := m.someTypes(1 + r.Intn(5))
		names := m.someNames(len(types))
		for at, name := range names {
			scope[name] = types[at]
		}
		if x := m.term(scope, m.someType(), 2+r.Intn(3)); isOwnTerm(x) {
			tell(names, types, x)
		}
	}
}

// termPaths is all paths that a term may have.
func termPaths() [][]int {
	var list [][]int
	for size := range 5 {
		list = append(list, pathsOf(size, []int{0, 1})...)
	}
	return list
}

// anyTerm is a term that is ok by its own names, and of any type, or of none.
func anyTerm(r *rand.Rand, deep int) impl.Term {
	if deep == 1 || r.Intn(6) == 0 {
		return terms(nameTerm("a"), nameTerm("b"), numTerm(0), numTerm(1), numTerm(9999))[r.Intn(5)]
	}
	paths := pathsOf(r.Intn(5), []int{0, 1})
	path := paths[r.Intn(len(paths))]
	if r.Intn(3) > 0 {
		path = path[:len(path)/2]
	}
	x := impl.Term{Kind: []int{7, 7, 7, 7, 8, 8, 8, 6, 6, 3 + r.Intn(3)}[r.Intn(10)]}
	for range []int{2, 2, 2, 2, 1, 2}[x.Kind-3] {
		x.Kids = append(x.Kids, anyTerm(r, deep-1))
	}
	if x.Kind >= 7 {
		x.Path = slices.Clone(path)
	}
	return x
}

// anyTerms is so many, of all depths.
func anyTerms(n int) []impl.Term {
	r := rand.New(rand.NewSource(int64(n)))
	var list []impl.Term
	for at := range n {
		list = append(list, anyTerm(r, 1+at%8))
	}
	return list
}

// termsUpTo is all terms that are at most so deep, of a name, a number and few paths.
func termsUpTo(deep int) []impl.Term {
	list := terms(nameTerm("a"), numTerm(1))
	if deep == 1 {
		return list
	}
	kids := termsUpTo(deep - 1)
	paths := [][]int{nil, {0}, {1}, {0, 1}}
	for _, a := range kids {
		for _, path := range paths {
			list = append(list, atTerm(a, path...))
		}
		for _, b := range kids {
			for kind := 3; kind <= 6; kind++ {
				list = append(list, twoTerm(kind, a, b))
			}
			for _, path := range paths {
				list = append(list, putTerm(a, b, path...))
			}
		}
	}
	return list
}

// simpLists is functions that are ok, of all sorts: such as are tidied, and such with many terms that may be made simpler, as they are, and tidied.
func simpLists(t *testing.T, n int) [][]impl.Pure {
	t.Helper()
	r := rand.New(rand.NewSource(int64(n)))
	lists := tidyLists(t, n)
	for range n {
		list, _ := makeFolded(r)
		lists = append(lists, list)
	}
	for _, list := range slices.Clone(lists) {
		lists = append(lists, impl.TidyOf(list))
	}
	return lists
}
