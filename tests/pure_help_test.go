package tests

import (
	"math/rand"
	"regexp"
	"slices"
	"strconv"
	"strings"
	"testing"

	"loop.example/handfast/impl"
)

func numTerm(n int) impl.Term {
	return impl.Term{Kind: 1, Num: n}
}

func nameTerm(name string) impl.Term {
	return impl.Term{Kind: 2, Name: name}
}

func twoTerm(kind int, a impl.Term, b impl.Term) impl.Term {
	return impl.Term{Kind: kind, Kids: []impl.Term{a, b}}
}

func atTerm(a impl.Term, path ...int) impl.Term {
	return impl.Term{Kind: 7, Path: path, Kids: []impl.Term{a}}
}

func putTerm(a impl.Term, b impl.Term, path ...int) impl.Term {
	return impl.Term{Kind: 8, Path: path, Kids: []impl.Term{a, b}}
}

func bindTerm(name string, t impl.Term) impl.Bind {
	return impl.Bind{Kind: 1, Names: []string{name}, Terms: []impl.Term{t}}
}

func bindCall(names []string, fn string, list ...impl.Term) impl.Bind {
	return impl.Bind{Kind: 2, Names: names, Fn: fn, Terms: list}
}

func bindIf(names []string, by impl.Term, yes impl.Body, no impl.Body) impl.Bind {
	return impl.Bind{Kind: 3, Names: names, Terms: []impl.Term{by}, Then: yes, Else: no}
}

func terms(list ...impl.Term) []impl.Term {
	return list
}

// saying is a body that says terms behind bindings.
func saying(says []impl.Term, list ...impl.Bind) impl.Body {
	return impl.Body{Binds: list, Says: says}
}

// pure is a function; its params are the words of a text.
func pure(name string, params string, body impl.Body) impl.Pure {
	return impl.Pure{Name: name, Params: strings.Fields(params), Body: body}
}

// numbered is so many names, none twice.
func numbered(n int) []string {
	var list []string
	for at := range n {
		list = append(list, "n"+strconv.Itoa(at))
	}
	return list
}

// puresFrom reads functions off lines as PureText writes them. No name may be written as something else is, and what is not written so ends the test.
func puresFrom(text string) []impl.Pure {
	lines := strings.Split(strings.TrimSuffix(text, "\n"), "\n")
	var list []impl.Pure
	for len(lines) > 0 && text != "" {
		words := strings.Fields(lines[0])
		fn := impl.Pure{Name: words[0], Params: words[1:]}
		fn.Body, lines = bodyFrom(lines[1:])
		list = append(list, fn)
	}
	return list
}

// bodyFrom reads a body up to what it says, and tells the lines behind.
func bodyFrom(lines []string) (impl.Body, []string) {
	var body impl.Body
	for {
		words := strings.Fields(lines[0])
		lines = lines[1:]
		switch words[0] {
		case "say":
			body.Says = termsFrom(words[1:])
			return body, lines
		case "let":
			at := slices.Index(words, "=")
			body.Binds = append(body.Binds, bindCall(words[1:at], words[at+1], termsFrom(words[at+2:])...))
		case "if":
			b := impl.Bind{Kind: 3, Terms: termsFrom(words[1:])}
			b.Then, lines = bodyFrom(lines)
			b.Else, lines = bodyFrom(lines[1:])
			b.Names = strings.Fields(lines[0])[1:]
			body.Binds, lines = append(body.Binds, b), lines[1:]
		default:
			body.Binds = append(body.Binds, impl.Bind{Kind: 1, Names: words[:1], Terms: termsFrom(words[2:])})
		}
	}
}

func termsFrom(words []string) []impl.Term {
	var list []impl.Term
	for len(words) > 0 {
		var t impl.Term
		t, words = termFrom(words)
		list = append(list, t)
	}
	return list
}

func termFrom(words []string) (impl.Term, []string) {
	word, path, _ := strings.Cut(strings.TrimSuffix(words[0], ";"), ".")
	words = words[1:]
	t := impl.Term{Kind: 2, Name: word}
	kids := 2
	switch at := slices.Index([]string{"+", "-", "<", ",", "at", "put"}, word); {
	case at == 4:
		t, kids = impl.Term{Kind: 7}, 1
	case at >= 0:
		t = impl.Term{Kind: 3 + at}
	default:
		kids = 0
	}
	if n, err := strconv.Atoi(word); err == nil {
		t = numTerm(n)
	}
	for _, step := range strings.FieldsFunc(path, func(b rune) bool { return b == '.' }) {
		n, _ := strconv.Atoi(step)
		t.Path = append(t.Path, n)
	}
	for range kids {
		var kid impl.Term
		kid, words = termFrom(words)
		t.Kids = append(t.Kids, kid)
	}
	return t, words
}

// The rules of what is ok, said once more in another way: all that stands anywhere is laid out in one list, each with where it stands, and then each is looked at by itself.

// stands is a function, a body, a binding or a term: how deep, which names are bound ahead of it, and which functions stand ahead.
type stands struct {
	what  any
	deep  int
	scope []string
	ahead []impl.Pure
}

func laidOut(list []impl.Pure) []stands {
	var all []stands
	for at, fn := range list {
		all = append(all, stands{fn, 1, nil, list[:at]})
		all = append(all, laidBody(stands{fn.Body, 1, fn.Params, list[:at]})...)
	}
	return all
}

// laidBody goes one deeper than may be, so that it shows, and ends.
func laidBody(s stands) []stands {
	all := []stands{s}
	if s.deep > 6 {
		return all
	}
	body := s.what.(impl.Body)
	scope := slices.Clone(s.scope)
	for _, b := range body.Binds {
		all = append(all, stands{b, s.deep, slices.Clone(scope), s.ahead})
		for _, t := range b.Terms {
			all = append(all, laidTerm(stands{t, 1, slices.Clone(scope), nil})...)
		}
		if b.Kind == 3 {
			all = append(all, laidBody(stands{b.Then, s.deep + 1, slices.Clone(scope), s.ahead})...)
			all = append(all, laidBody(stands{b.Else, s.deep + 1, slices.Clone(scope), s.ahead})...)
		}
		scope = append(scope, b.Names...)
	}
	for _, t := range body.Says {
		all = append(all, laidTerm(stands{t, 1, scope, nil})...)
	}
	return all
}

func laidTerm(s stands) []stands {
	all := []stands{s}
	if s.deep > 8 {
		return all
	}
	for _, kid := range s.what.(impl.Term).Kids {
		all = append(all, laidTerm(stands{kid, s.deep + 1, s.scope, nil})...)
	}
	return all
}

var pureNameRule = regexp.MustCompile(`\A[a-zA-Z0-9_]{1,12}\z`)

// isRow says whether names may stand together.
func isRow(names []string) bool {
	for at, name := range names {
		if !pureNameRule.MatchString(name) || slices.Index(names, name) != at {
			return false
		}
	}
	return len(names) <= 60
}

// isPures is what PureOk should answer.
func isPures(list []impl.Pure) bool {
	if len(list) > 10 {
		return false
	}
	for _, s := range laidOut(list) {
		ok := false
		switch what := s.what.(type) {
		case impl.Pure:
			named := func(fn impl.Pure) bool { return fn.Name == what.Name }
			ok = isRow([]string{what.Name}) && isRow(what.Params) && !slices.ContainsFunc(s.ahead, named)
		case impl.Body:
			ok = s.deep <= 6 && len(what.Binds) <= 400 && len(what.Says) <= 60
		case impl.Bind:
			ok = isRow(what.Names) && isBind(what, s.ahead)
		case impl.Term:
			ok = s.deep <= 8 && isTerm(what, s.scope)
		}
		if !ok {
			return false
		}
	}
	return true
}

// isBind takes what belongs to its kind out of a binding, where then nothing may be left.
func isBind(b impl.Bind, ahead []impl.Pure) bool {
	given, said := 1, []int{1}
	switch b.Kind {
	case 1:
	case 2:
		at := slices.IndexFunc(ahead, func(fn impl.Pure) bool { return fn.Name == b.Fn })
		if at < 0 {
			return false
		}
		given, said, b.Fn = len(ahead[at].Params), []int{len(ahead[at].Body.Says)}, ""
	case 3:
		said, b.Then, b.Else = []int{len(b.Then.Says), len(b.Else.Says)}, impl.Body{}, impl.Body{}
	default:
		return false
	}
	for _, n := range said {
		if n != len(b.Names) {
			return false
		}
	}
	return given == len(b.Terms) && beside(b.Fn, b.Then, b.Else) == ""
}

func isTerm(t impl.Term, scope []string) bool {
	if t.Kind < 1 || t.Kind > 8 || len(t.Kids) != []int{0, 0, 2, 2, 2, 2, 1, 2}[t.Kind-1] {
		return false
	}
	wrong := func(n int) bool { return n != 0 && n != 1 }
	switch t.Kind {
	case 1:
		return t.Num >= 0 && t.Num <= 9999 && beside(t.Name, t.Path) == ""
	case 2:
		return slices.Contains(scope, t.Name) && beside(t.Num, t.Path) == ""
	case 7, 8:
		return len(t.Path) <= 4 && !slices.ContainsFunc(t.Path, wrong) && beside(t.Num, t.Name) == ""
	}
	return beside(t.Num, t.Name, t.Path) == ""
}

// The rules of texts, said once more: a line is words, and what is empty is no word.

func puresText(list []impl.Pure) string {
	if !isPures(list) {
		return ""
	}
	text := ""
	for _, fn := range list {
		text += lineOf("", append([]string{fn.Name}, fn.Params...)...) + bodyText(fn.Body, " ")
	}
	return text
}

func lineOf(ahead string, words ...string) string {
	return ahead + strings.Join(strings.Fields(strings.Join(words, " ")), " ") + "\n"
}

func bodyText(body impl.Body, ahead string) string {
	text := ""
	for _, b := range body.Binds {
		names, given := strings.Join(b.Names, " "), rowOfTerms(b.Terms)
		switch b.Kind {
		case 1:
			text += lineOf(ahead, names, "=", given)
		case 2:
			text += lineOf(ahead, "let", names, "=", b.Fn, given)
		case 3:
			text += lineOf(ahead, "if", given) + bodyText(b.Then, ahead+" ") + lineOf(ahead, "else") + bodyText(b.Else, ahead+" ") + lineOf(ahead, "for", names)
		}
	}
	return text + lineOf(ahead, "say", rowOfTerms(body.Says))
}

func rowOfTerms(list []impl.Term) string {
	var words []string
	for _, t := range list {
		words = append(words, termWords(t))
	}
	return strings.Join(words, "; ")
}

func termWords(t impl.Term) string {
	words := []string{strconv.Itoa(t.Num), t.Name, "+", "-", "<", ",", "at", "put"}[t.Kind-1]
	for _, step := range t.Path {
		words += "." + strconv.Itoa(step)
	}
	for _, kid := range t.Kids {
		words += " " + termWords(kid)
	}
	return words
}

// The rules of runs, said once more in another way: a value is its text, names are a row that is looked through from its end, and who fails panics.

type failing struct{}

// must fails, if something is not so.
func must(so bool) {
	if !so {
		panic(failing{})
	}
}

// namedRow is names and the texts of what they stand for, in the order in which they were bound.
type namedRow [][2]string

func (r namedRow) find(name string) string {
	for _, pair := range slices.Backward(r) {
		if pair[0] == name {
			return pair[1]
		}
	}
	panic("no such name: " + name)
}

// with is the row and more behind it; it shares no room with another one.
func (r namedRow) with(names []string, said []string) namedRow {
	more := slices.Clip(r)
	for at, name := range names {
		more = append(more, [2]string{name, said[at]})
	}
	return more
}

// sayOf is what a body says.
func sayOf(list []impl.Pure, body impl.Body, r namedRow) []string {
	for _, b := range body.Binds {
		said := sayTerms(b.Terms, r)
		switch {
		case b.Kind == 2:
			said = sayFn(list, b.Fn, said)
		case b.Kind == 3 && numberFrom(said[0]) == 0:
			said = sayOf(list, b.Else, r)
		case b.Kind == 3:
			said = sayOf(list, b.Then, r)
		}
		r = r.with(b.Names, said)
	}
	return sayTerms(body.Says, r)
}

func sayFn(list []impl.Pure, name string, given []string) []string {
	at := slices.IndexFunc(list, func(fn impl.Pure) bool { return fn.Name == name })
	return sayOf(list, list[at].Body, namedRow{}.with(list[at].Params, given))
}

func sayTerms(list []impl.Term, r namedRow) []string {
	var said []string
	for _, t := range list {
		said = append(said, sayTerm(t, r))
	}
	return said
}

func sayTerm(t impl.Term, r namedRow) string {
	kids := sayTerms(t.Kids, r)
	switch t.Kind {
	case 1:
		return strconv.Itoa(t.Num)
	case 2:
		return r.find(t.Name)
	case 3:
		n := numberFrom(kids[0]) + numberFrom(kids[1])
		must(n <= 9999)
		return strconv.Itoa(n)
	case 4:
		n := numberFrom(kids[0]) - numberFrom(kids[1])
		must(n >= 0)
		return strconv.Itoa(n)
	case 5:
		return map[bool]string{true: "1", false: "0"}[numberFrom(kids[0]) < numberFrom(kids[1])]
	case 6:
		text := "(" + kids[0] + "," + kids[1] + ")"
		must(deepText(text) <= 4)
		return text
	case 7:
		from, to := findPart(kids[0], t.Path)
		return kids[0][from:to]
	}
	from, to := findPart(kids[0], t.Path)
	must(shape(kids[0][from:to]) == shape(kids[1]))
	return kids[0][:from] + kids[1] + kids[0][to:]
}

// numberFrom fails, if a value is none.
func numberFrom(text string) int {
	n, err := strconv.Atoi(text)
	must(err == nil)
	return n
}

// deepText is how deep a value is, by its brackets.
func deepText(text string) int {
	most, now := 0, 0
	for _, b := range text {
		now += map[rune]int{'(': 1, ')': -1}[b]
		most = max(most, now)
	}
	return most + 1
}

// findPart is where in its text a part of a value stands; it fails, if there is none.
func findPart(text string, path []int) (int, int) {
	if len(path) == 0 {
		return 0, len(text)
	}
	must(text[0] == '(')
	deep, comma := 0, 0
	for n, b := range text {
		deep += map[rune]int{'(': 1, ')': -1}[b]
		if b == ',' && deep == 1 {
			comma = n
		}
	}
	start, end := 1, comma
	if path[0] == 1 {
		start, end = comma+1, len(text)-1
	}
	from, to := findPart(text[start:end], path[1:])
	return start + from, start + to
}

var figures = regexp.MustCompile(`[0-9]+`)

// shape is the text of a value's type.
func shape(text string) string {
	return figures.ReplaceAllString(text, "i")
}

// saidOf is what PureRun should answer, in words; of functions that are ok, and args of ok types, as many as there are Params.
func saidOf(list []impl.Pure, name string, args []impl.Val) (words string) {
	defer func() {
		if fault := recover(); fault != nil {
			if fault != any(failing{}) {
				panic(fault)
			}
			words = "fails"
		}
	}()
	var given []string
	for _, v := range args {
		given = append(given, valText(v))
	}
	return strings.Join(append([]string{"says"}, sayFn(list, name, given)...), " ")
}

// pureWords is what PureRun should answer of anything, in words.
func pureWords(list []impl.Pure, name string, args []impl.Val) string {
	at := slices.IndexFunc(list, func(fn impl.Pure) bool { return fn.Name == name })
	if !isPures(list) || at < 0 || len(args) != len(list[at].Params) {
		return "bad"
	}
	for _, v := range args {
		if !isOfSome(v, 4) {
			return "bad"
		}
	}
	return saidOf(list, name, args)
}

// isOfSome says whether a value is of some type that is at most so deep.
func isOfSome(v impl.Val, deep int) bool {
	if len(v.Kids) == 0 {
		return v.Num >= 0 && v.Num <= 9999
	}
	return deep > 1 && v.Num == 0 && len(v.Kids) == 2 && isOfSome(v.Kids[0], deep-1) && isOfSome(v.Kids[1], deep-1)
}

// inWords tells what PureRun answered; it has no words of its own for a code with something beside it.
func inWords(vals []impl.Val, code int) string {
	words := "says"
	for _, v := range vals {
		words += " " + valText(v)
	}
	switch {
	case code == 0:
		return words
	case code == 1 && len(vals) == 0:
		return "fails"
	case code == 9 && len(vals) == 0:
		return "bad"
	}
	return words + " and is " + strconv.Itoa(code)
}

// mustSay runs a function, and holds what comes of it against words.
func mustSay(t *testing.T, list []impl.Pure, name string, args []impl.Val, want string) {
	t.Helper()
	if got := inWords(impl.PureRun(list, name, args)); got != want {
		t.Fatalf("%s with %v %s, it should be: %s, in\n%s", name, args, got, want, impl.PureText(list))
	}
}

// pureMaker makes functions that are ok by a source of numbers. It knows of which type each name is, so that most runs do not fail.
type pureMaker struct {
	r     *rand.Rand
	moves int // how many bindings more a body may have, and then many that only give a name, or a number, one
	folds int // of so many terms one is such that it may be made simpler
	list  []impl.Pure
	takes [][]impl.Type
	says  [][]impl.Type
}

// typed is names that are bound, and their types.
type typed map[string]impl.Type

// makePures is functions that are ok, and the types of what each takes.
func makePures(r *rand.Rand) ([]impl.Pure, [][]impl.Type) {
	m := &pureMaker{r: r}
	for range r.Intn(5) {
		m.fn()
	}
	return m.list, m.takes
}

func (m *pureMaker) someType() impl.Type {
	list := typesUpTo([]int{1, 2, 2, 3}[m.r.Intn(4)])
	return list[m.r.Intn(len(list))]
}

func (m *pureMaker) someTypes(n int) []impl.Type {
	var list []impl.Type
	for range n {
		list = append(list, m.someType())
	}
	return list
}

// someNames is so many names, none twice, out of few, so that they are often bound anew.
func (m *pureMaker) someNames(n int) []string {
	list := []string{"a", "b", "c", "T1", "T2", "x_", "Z9"}
	m.r.Shuffle(len(list), func(i int, j int) { list[i], list[j] = list[j], list[i] })
	return list[:n]
}

func (m *pureMaker) fn() {
	takes, says := m.someTypes(m.r.Intn(4)), m.someTypes(m.r.Intn(4))
	scope := typed{}
	names := m.someNames(len(takes))
	for at, name := range names {
		scope[name] = takes[at]
	}
	body := m.body(scope, says, 1)
	name := []string{"f", "a", "g", "T1", "h_"}[len(m.list)]
	m.list = append(m.list, impl.Pure{Name: name, Params: names, Body: body})
	m.takes, m.says = append(m.takes, takes), append(m.says, says)
}

func (m *pureMaker) body(outside typed, says []impl.Type, deep int) impl.Body {
	scope := typed{}
	for name, kind := range outside {
		scope[name] = kind
	}
	var body impl.Body
	for range m.r.Intn(5 - deep/2 + m.moves) {
		body.Binds = append(body.Binds, m.bind(scope, deep))
	}
	body.Says = m.terms(scope, says)
	return body
}

func (m *pureMaker) bind(scope typed, deep int) impl.Bind {
	kinds := m.someTypes(m.r.Intn(4))
	var b impl.Bind
	switch way := m.r.Intn(5); {
	case m.moves > 0 && m.r.Intn(3) > 0:
		b, kinds = m.move(scope)
	case way == 0 && len(m.list) > 0:
		at := m.r.Intn(len(m.list))
		kinds = m.says[at]
		b = impl.Bind{Kind: 2, Fn: m.list[at].Name, Terms: m.terms(scope, m.takes[at])}
	case way == 1 && deep < 6:
		b = impl.Bind{Kind: 3, Terms: m.terms(scope, []impl.Type{numberType}), Then: m.body(scope, kinds, deep+1), Else: m.body(scope, kinds, deep+1)}
	default:
		kinds = m.someTypes(1)
		b = impl.Bind{Kind: 1, Terms: m.terms(scope, kinds)}
	}
	b.Names = m.someNames(len(kinds))
	for at, name := range b.Names {
		scope[name] = kinds[at]
	}
	return b
}

// move is a binding of a name, or, now and then, or if there is none, of a number.
func (m *pureMaker) move(scope typed) (impl.Bind, []impl.Type) {
	for _, name := range m.someNames(7) {
		if kind, ok := scope[name]; ok && m.r.Intn(6) > 0 {
			return impl.Bind{Kind: 1, Terms: terms(nameTerm(name))}, []impl.Type{kind}
		}
	}
	return impl.Bind{Kind: 1, Terms: terms(numTerm(anyNumber(m.r)))}, []impl.Type{numberType}
}

func (m *pureMaker) terms(scope typed, kinds []impl.Type) []impl.Term {
	var list []impl.Term
	for _, kind := range kinds {
		list = append(list, m.term(scope, kind, 2+m.r.Intn(3)))
	}
	return list
}

// term is mostly of a type, and at most two deeper than it is asked for.
func (m *pureMaker) term(scope typed, kind impl.Type, deep int) impl.Term {
	if m.r.Intn(80) == 0 {
		kind = m.someType()
	}
	if m.folds > 0 && deep > 1 && m.r.Intn(m.folds) == 0 {
		return m.folded(scope, kind, deep-1)
	}
	found := m.parts(scope, kind)
	if len(found) > 0 && (deep <= 1 || m.r.Intn(3) > 0) {
		return found[m.r.Intn(len(found))]
	}
	if deep > 1 && m.r.Intn(6) == 0 {
		return m.put(scope, kind, deep-1)
	}
	if len(kind.Kids) == 2 {
		return twoTerm(6, m.term(scope, kind.Kids[0], deep-1), m.term(scope, kind.Kids[1], deep-1))
	}
	if deep <= 1 || m.r.Intn(2) == 0 {
		return numTerm(anyNumber(m.r))
	}
	return twoTerm([]int{3, 3, 3, 5, 5, 4}[m.r.Intn(6)], m.term(scope, kind, deep-1), m.term(scope, kind, deep-1))
}

// put is a term with another part.
func (m *pureMaker) put(scope typed, kind impl.Type, deep int) impl.Term {
	paths := partPaths(kind)
	path := paths[m.r.Intn(len(paths))]
	part, _ := partType(kind, path)
	return putTerm(m.term(scope, kind, deep), m.term(scope, part, deep), path...)
}

// parts is all terms that are a name, or a part of one, of a type.
func (m *pureMaker) parts(scope typed, kind impl.Type) []impl.Term {
	var list []impl.Term
	for _, name := range []string{"a", "b", "c", "T1", "T2", "x_", "Z9"} {
		whole, ok := scope[name]
		if !ok {
			continue
		}
		for _, path := range partPaths(whole) {
			if part, _ := partType(whole, path); !sameType(part, kind) {
				continue
			}
			if len(path) == 0 {
				list = append(list, nameTerm(name))
			} else {
				list = append(list, atTerm(nameTerm(name), path...))
			}
		}
	}
	return list
}

// partPaths is the paths of all parts of a type.
func partPaths(kind impl.Type) [][]int {
	list := [][]int{nil}
	for at, kid := range kind.Kids {
		for _, path := range partPaths(kid) {
			list = append(list, append([]int{at}, path...))
		}
	}
	return list
}

// eachPure tells of each function of functions that are ok some runs.
func eachPure(t *testing.T, n int, tell func(list []impl.Pure, at int, args []impl.Val)) {
	t.Helper()
	r := rand.New(rand.NewSource(int64(n)))
	for range n {
		list, takes := makePures(r)
		if !isPures(list) {
			t.Fatalf("the test made functions that are not ok: %+v", list)
		}
		for at := range list {
			for range 3 {
				tell(list, at, anyVals(r, takes[at]))
			}
		}
	}
}

// purely runs a function with what it asks for.
func (c counter) purely(t *testing.T, list []impl.Pure, name string, args []impl.Val) string {
	t.Helper()
	vals, code := impl.PureRun(list, name, args)
	if code != 0 && code != 1 {
		t.Fatalf("%s with %v is %d, in\n%s", name, args, code, puresText(list))
	}
	c[code]++
	return inWords(vals, code)
}
