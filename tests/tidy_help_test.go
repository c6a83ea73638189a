package tests

import (
	"math/rand"
	"strconv"
	"testing"

	"loop.example/handfast/impl"
)

// How functions are tidied, said once more in another way: first no name is bound twice anywhere in a function, then one binding after the other is taken out, and what it gave a name is put wherever that stands, until there is none; then all names are numbered.

// loner takes names that are bound nowhere else.
type loner struct {
	count int
}

func (l *loner) names(n int) []string {
	var list []string
	for range n {
		l.count++
		list = append(list, "v"+strconv.Itoa(l.count))
	}
	return list
}

// body is a body in which each name is bound once, and in no other body of its function.
func (l *loner) body(body impl.Body, row namedRow) impl.Body {
	var told impl.Body
	as := func(name string) impl.Term { return nameTerm(row.find(name)) }
	for _, b := range body.Binds {
		b.Terms = inTerms(b.Terms, as)
		if b.Kind == 3 {
			b.Then, b.Else = l.body(b.Then, row), l.body(b.Else, row)
		}
		names := l.names(len(b.Names))
		row = row.with(b.Names, names)
		b.Names = names
		told.Binds = append(told.Binds, b)
	}
	told.Says = inTerms(body.Says, as)
	return told
}

// inTerms is terms with something else for each name.
func inTerms(list []impl.Term, as func(name string) impl.Term) []impl.Term {
	var told []impl.Term
	for _, x := range list {
		if x.Kind == 2 {
			x = as(x.Name)
		} else {
			x.Kids = inTerms(x.Kids, as)
		}
		told = append(told, x)
	}
	return told
}

// eachIn tells of a body, and of all bodies in it.
func eachIn(body *impl.Body, tell func(*impl.Body)) {
	tell(body)
	for n := range body.Binds {
		if body.Binds[n].Kind == 3 {
			eachIn(&body.Binds[n].Then, tell)
			eachIn(&body.Binds[n].Else, tell)
		}
	}
}

// inBody puts something else for each name in all terms.
func inBody(body *impl.Body, as func(name string) impl.Term) {
	eachIn(body, func(b *impl.Body) {
		for n := range b.Binds {
			b.Binds[n].Terms = inTerms(b.Binds[n].Terms, as)
		}
		b.Says = inTerms(b.Says, as)
	})
}

func isPlain(b impl.Bind) bool {
	return b.Kind == 1 && b.Terms[0].Kind <= 2
}

// takeOut takes the first binding out that only gives a name, or a number, one; it says whether there was any.
func takeOut(body *impl.Body) bool {
	var out *impl.Bind
	eachIn(body, func(b *impl.Body) {
		for n := range b.Binds {
			if out == nil && isPlain(b.Binds[n]) {
				out = &impl.Bind{Names: b.Binds[n].Names, Terms: b.Binds[n].Terms}
				b.Binds = append(b.Binds[:n:n], b.Binds[n+1:]...)
				return
			}
		}
	})
	if out == nil {
		return false
	}
	inBody(body, func(name string) impl.Term {
		if name == out.Names[0] {
			return out.Terms[0]
		}
		return nameTerm(name)
	})
	return true
}

// namesIn is the names that are bound, those in Then and Else ahead of those of their choice.
func namesIn(body impl.Body) []string {
	var list []string
	for _, b := range body.Binds {
		if b.Kind == 3 {
			list = append(append(list, namesIn(b.Then)...), namesIn(b.Else)...)
		}
		list = append(list, b.Names...)
	}
	return list
}

// renumber gives all names of a function, none of which is bound twice, others by their order.
func renumber(fn impl.Pure) impl.Pure {
	as := map[string]string{}
	for n, name := range append(append([]string{}, fn.Params...), namesIn(fn.Body)...) {
		as[name] = "U" + strconv.Itoa(n+1)
	}
	row := func(names []string) []string {
		var told []string
		for _, name := range names {
			told = append(told, as[name])
		}
		return told
	}
	fn.Params = row(fn.Params)
	eachIn(&fn.Body, func(b *impl.Body) {
		for n := range b.Binds {
			b.Binds[n].Names = row(b.Binds[n].Names)
		}
	})
	inBody(&fn.Body, func(name string) impl.Term { return nameTerm(as[name]) })
	return fn
}

// tidyOf is what TidyOf should answer of anything.
func tidyOf(list []impl.Pure) []impl.Pure {
	if !isPures(list) {
		return nil
	}
	var told []impl.Pure
	for _, fn := range list {
		l := &loner{}
		params := l.names(len(fn.Params))
		row := namedRow{}.with(fn.Params, params)
		fn.Params, fn.Body = params, l.body(fn.Body, row)
		for takeOut(&fn.Body) {
		}
		told = append(told, renumber(fn))
	}
	return told
}

// tidySize is what TidySize should answer of anything.
func tidySize(list []impl.Pure) int {
	if !isPures(list) {
		return -1
	}
	size := 0
	for _, s := range laidOut(list) {
		if _, ok := s.what.(impl.Bind); ok {
			size++
		}
	}
	return size
}

// mustTidy holds TidyOf and TidySize of anything against the rules that are told in another way.
func mustTidy(t *testing.T, list []impl.Pure) []impl.Pure {
	t.Helper()
	got, want := impl.TidyOf(list), tidyOf(list)
	if !sameThing(got, want) {
		t.Fatalf("tidied it is\n%sit should be\n%sof\n%s", impl.PureText(got), puresText(want), puresText(list))
	}
	for _, fns := range [][]impl.Pure{list, got} {
		if size := impl.TidySize(fns); size != tidySize(fns) {
			t.Fatalf("there are %d bindings, not %d, in\n%s", size, tidySize(fns), puresText(fns))
		}
	}
	return got
}

// tidyText is what functions of a text are tidied as, in words.
func tidyText(t *testing.T, text string) string {
	t.Helper()
	list := puresFrom(text)
	if !isPures(list) {
		t.Fatalf("the test asks for what is not ok:\n%s", text)
	}
	return impl.PureText(mustTidy(t, list))
}

// tidyCase is the lines of functions, and what these are tidied as.
type tidyCase struct {
	lines string
	want  string
}

// tidyAll holds functions of these lines, which stand behind others, against what they are tidied as, to the letter; runs them; and tidies what is tidy.
func tidyAll(t *testing.T, ahead tidyCase, list []tidyCase) {
	t.Helper()
	r := rand.New(rand.NewSource(22))
	for _, c := range list {
		text, want := ahead.lines+c.lines, ahead.want+c.want
		if got := tidyText(t, text); got != want {
			t.Errorf("tidied as\n%sit should be\n%sof\n%s", got, want, text)
			continue
		}
		if got := tidyText(t, want); got != want {
			t.Errorf("tidied twice it is\n%sit should be\n%s", got, want)
		}
		mustRunTidied(t, r, puresFrom(text), puresFrom(want), 15)
	}
}

// mustRunTidied runs each of some functions, and what they are tidied as, with so many values, among them small numbers.
func mustRunTidied(t *testing.T, r *rand.Rand, list []impl.Pure, tidied []impl.Pure, n int) {
	t.Helper()
	types := typesUpTo(3)
	for _, fn := range list {
		for turn := range n {
			var kinds []impl.Type
			for range fn.Params {
				kinds = append(kinds, types[r.Intn(len(types))])
			}
			args := anyVals(r, kinds)
			if turn < 6 {
				args = valsOfNumbers(len(fn.Params), func(at int) int { return (turn + at) % 3 })
			}
			mustSay(t, tidied, fn.Name, args, pureWords(list, fn.Name, args))
		}
	}
}

func valsOfNumbers(n int, number func(at int) int) []impl.Val {
	var list []impl.Val
	for at := range n {
		list = append(list, impl.Val{Num: number(at)})
	}
	return list
}

// makeMoved is functions that are ok, with many bindings that only give a name, or a number, another one, and the types of what each takes.
func makeMoved(r *rand.Rand) ([]impl.Pure, [][]impl.Type) {
	m := &pureMaker{r: r, moves: 8}
	for range 1 + r.Intn(4) {
		m.fn()
	}
	return m.list, m.takes
}

// eachMoved tells of each function of such some runs.
func eachMoved(t *testing.T, n int, tell func(list []impl.Pure, at int, args []impl.Val)) {
	t.Helper()
	r := rand.New(rand.NewSource(int64(n)))
	for range n {
		list, takes := makeMoved(r)
		if !isPures(list) {
			t.Fatalf("the test made functions that are not ok: %+v", list)
		}
		for at := range list {
			for range 3 {
				tell(list, at, anyVals(r, takes[at]))
			}
		}
	}
}

// tidyLists is functions that are ok, of all sorts: drawn ones, such with many bindings that are left out, and such that programs are told as.
func tidyLists(t *testing.T, n int) [][]impl.Pure {
	t.Helper()
	r := rand.New(rand.NewSource(int64(n)))
	lists := [][]impl.Pure{{}, puresFrom("f\n say\n")}
	for _, text := range pureSamples {
		lists = append(lists, puresFrom(text))
	}
	for range n {
		list, _ := makePures(r)
		moved, _ := makeMoved(r)
		lists = append(lists, list, moved)
	}
	for _, p := range someProgs(t, n) {
		lists = append(lists, mustTold(t, p))
	}
	return lists
}
