package tests

import (
	"slices"
	"strings"
	"testing"

	"loop.example/handfast/impl"
)

func TestCheckConstants(t *testing.T) {
	got := []int{impl.CheckFine, impl.CheckForm, impl.CheckName, impl.CheckType, impl.CheckLoan, impl.CheckOut}
	if want := []int{0, 1, 2, 3, 4, 5}; !slices.Equal(got, want) {
		t.Error(got)
	}
}

// fineTexts is programs that are fine: each kind of statement and of expression, functions that say and that give out a place, and names that are lent from all that can be lent from.
func fineTexts() []string {
	return []string{
		"",
		"fn f\nsays i 0\n",
		"fn f\nhas n i\nsays (i,i) , + @n 1 - @n < @n 1\n",
		"fn f\nlent p ((i,i),i)\nhas n i\nlet v @p.0\nlend r p.0.1\nset r + @r @n\nset v.0 @p.1\npick s p.0.0 v.1 < @n 3\nset s 5\nif @n\nlend a p\nset a.1 1\nelse\nlet b , @v 2\nset p @b\nend\nsays (i,i) @v\n",
		"fn f\nlent p ((i,i),i)\nlend r p.0\nlend s r.1\nlend t s\nset t 3\nset s 4\nset r.0 5\nset p.1 6\ngives i r.1\n",
		"fn f\nlent p (i,i)\nhas n i\npick r p.0 p.1 @n\ngives i r\nfn g\nlent p (i,i)\nlent q i\nlet v , 1 2\ncall r f to p of 1\ncall s f to v of @q\nset r 3\nset s 4\npick t r q @v.0\nif @v.1\ncall x f to v of 0\nset x 2\nelse\nset t 1\nend\ngives i t\nfn h\nlent p (i,i)\nhas n (i,i)\nlet q 3\ncall r g to p to q\nset r 5\ncall s g to p to n.0\nset n.1 @n.1\nsays i + @s @q\n",
		"fn two\nlent a i\nlent b i\nset a @b\nsays i @a\nfn one\nlent a i\nhas n i\nlend b a\nset b + @n 1\ngives i b\nfn all\nlent p (i,i)\ncall x two to p.0 to p.1\ncall y two to p.1 to p.0\ncall z one to p.0 of @p.1\ncall w one to p.1 of 3\nset w @z\ngives i p.0\n",
	}
}

func TestProgramsThatAreFine(t *testing.T) {
	for _, text := range fineTexts() {
		p := mustRead(t, text)
		mustCheck(t, p, 0, 0)
		if !isFine(p) {
			t.Errorf("the tests' own rules refuse\n%s", text)
		}
	}
}

// checkCase is the lines of a function, and what is wrong with it.
type checkCase struct {
	lines string
	code  int
}

// checkAll checks functions of these lines, which stand behind others.
func checkAll(t *testing.T, ahead string, head string, list []checkCase) {
	t.Helper()
	at := strings.Count(ahead, "fn ")
	for _, c := range list {
		text := ahead + head + c.lines
		if !strings.Contains(c.lines, "says") && !strings.Contains(c.lines, "gives") {
			text += "says i 0\n"
		}
		p := mustRead(t, text)
		where := at
		if c.code == 0 {
			where = 0
		}
		mustCheck(t, p, c.code, where)
		if code, n := faultOf(p); code != c.code || n != where {
			t.Errorf("the tests' own rules tell %d in %d of\n%s", code, n, text)
		}
	}
}

// ahead is functions that are called: one that says, of each sort of parameters, and such that give out a place.
const ahead = "fn none\nsays i 1\nfn two\nlent a i\nlent b i\nsays i 0\nfn mix\nlent a i\nhas n i\nlent b (i,i)\nsays (i,i) @b\nfn out\nlent a i\nlent b i\nhas n i\npick c a b @n\ngives i c\n"

const head = "fn f\nlent p (i,i)\nlent q (i,i)\nhas n i\nhas m (i,i)\n"

func TestNamesThatAreGiven(t *testing.T) {
	checkAll(t, ahead, head, []checkCase{
		{"let x 1\nlet y @x\n", 0},
		{"let p 1\n", 2}, {"let q 1\n", 2}, {"let n 1\n", 2}, {"let m 1\n", 2},
		{"lend n p\n", 2}, {"pick n p.0 p.1 1\n", 2}, {"call n none\n", 2}, {"call n out to p.0 to p.1 of 1\n", 2},
		{"let x 1\nlet x 1\n", 2}, {"let x 1\nlend x p\n", 2}, {"let x 1\npick x p q 1\n", 2}, {"let x 1\ncall x none\n", 2},
		{"lend x p\nlet x 1\n", 2}, {"pick x p q 1\nlet x 1\n", 2}, {"call x none\nlet x 1\n", 2}, {"call x out to p.0 to q.0 of 1\nlet x 1\n", 2},
		{"lend x p.0\nset p.0 1\nlet x 1\n", 2},
		{"let f 1\nlet none @f\ncall two none\n", 0},
		{"let a 1\nlet b @a\nlet c 3\n", 0},
		{"let x @x\n", 2}, {"lend x x\n", 2}, {"set x 1\n", 2}, {"set x.0 1\n", 2}, {"let y + 1 @x\n", 2}, {"let y , @x 1\n", 2},
		{"pick r x p 1\n", 2}, {"pick r p x 1\n", 2}, {"pick r p q @x\n", 2}, {"pick r r p 1\n", 2}, {"call x two to x to p.0\n", 2}, {"call x two to p.0 to x\n", 2}, {"call y mix to p.0 of @x to q\n", 2},
		{"if @x\nelse\nend\n", 2}, {"says i @x\n", 2}, {"gives i x\n", 2}, {"says i @a\n", 2},
	})
	checkAll(t, ahead, "", []checkCase{
		{"fn f\nhas a i\nhas a i\n", 2}, {"fn f\nlent a i\nhas b i\nlent a (i,i)\n", 2}, {"fn f\nhas a i\nhas b i\nhas c i\nlent d i\n", 0}, {"fn f\nhas f i\nsays i @f\n", 0},
	})
}

func TestNamesOfChoices(t *testing.T) {
	checkAll(t, ahead, head, []checkCase{
		{"if @n\nlet x 1\nelse\nlet y 1\nend\nlet z 2\n", 0},
		{"if @n\nlet x 1\nelse\nlet x 1\nend\n", 2}, {"if @n\nlend x p\nelse\nlend x q\nend\n", 2}, {"if @n\ncall x none\nelse\npick x p q 1\nend\n", 2},
		{"if @n\nlet x 1\nelse\nend\nlet x 2\n", 2}, {"if @n\nelse\nlet x 1\nend\nlet x 2\n", 2},
		{"if @n\nlet x 1\nelse\nend\nlend x p\n", 2}, {"if @n\nlend x p\nelse\nend\ncall x none\n", 2}, {"if @n\nlend x p\nelse\nend\npick x p q 1\n", 2},
		{"if @n\nlet n 1\nelse\nend\n", 2}, {"if @n\nelse\nlet n 1\nend\n", 2}, {"let x 1\nif @n\nelse\nlet x 1\nend\n", 2},
		{"if @n\nlet x 1\nset x 2\nelse\nend\n", 0}, {"if @n\nelse\nlet x 1\nset x 2\nend\n", 0},
		{"if @n\nlet x 1\nelse\nset x 2\nend\n", 2}, {"if @n\nlet x 1\nelse\nend\nset x 2\n", 2}, {"if @n\nelse\nlet x 1\nend\nset x 2\n", 2}, {"if @n\nlend x p\nelse\nend\nset x.0 2\n", 2},
		{"if @n\nlet x 1\nelse\nend\nsays i @x\n", 2}, {"if @n\nlend x p\nelse\nend\ngives i x.0\n", 2}, {"if @n\nelse\nlend x p\nend\ngives i x.0\n", 2},
		{"if @n\nlend x p.0\nset p.0 1\nelse\nend\nset x 2\n", 2}, {"if @n\nelse\nlend x p.0\nset p.0 1\nend\nset x 2\n", 2}, {"if @n\nlend x p.0\nset p.0 1\nelse\nset x 2\nend\n", 2},
		{"if 1\nif 2\nlet x 1\nelse\nend\nelse\nlet x 1\nend\n", 2}, {"if 1\nif 2\nelse\nlet x 1\nend\nelse\nif 3\nelse\nlet x 1\nend\nend\n", 2}, {"if 1\nif 2\nlet x 1\nelse\nend\nset x 1\nelse\nend\n", 2}, {"if 1\nif 2\nlet x 1\nelse\nend\nlet x 1\nelse\nend\n", 2}, {"if 1\nif 2\nlet x 1\nelse\nend\nelse\nend\nlet x 1\n", 2}, {"if 1\nlet x 1\nif 2\nset x 2\nelse\nset x 3\nend\nset x 4\nelse\nend\n", 0},
		{"if 1\nlet x 1\nelse\nend\nif 1\nelse\nlet x 1\nend\n", 2},
		{"if @n\nset p @x\nelse\nend\n", 2},
	})
}

func TestFunctionsThatAreCalled(t *testing.T) {
	checkAll(t, ahead, head, []checkCase{
		{"call x none\nsays i @x\n", 0}, {"call x two to p.0 to q.1\nsays i @x\n", 0}, {"call x mix to p.0 of + @n 1 to q\nsays (i,i) @x\n", 0}, {"call x out to p.0 to p.1 of 1\nset x 3\ngives i x\n", 0},
		{"call x f\n", 2}, {"call x f to p to q of @n of @m\n", 2}, {"call x g\n", 2}, {"call x zz of 1\n", 2}, {"call x n\n", 2}, {"call x nonee\n", 2}, {"call x non\n", 2},
		{"call x none of 1\n", 3}, {"call x none to p\n", 3}, {"call x two\n", 3}, {"call x two to p.0\n", 3}, {"call x two to p.0 to q.0 to p.1\n", 3}, {"call x two to p.0 to q.0 of 1\n", 3}, {"call x mix to p.0 of 1\n", 3},
		{"call x two of 1 to p.0\n", 3}, {"call x two to p.0 of 1\n", 3}, {"call x two of @p.0 to p.1\n", 3}, {"call x mix to p.0 to n to q\n", 3}, {"call x mix of 1 of 1 to q\n", 3},
		{"call x two to p to q.0\n", 3}, {"call x two to q.0 to p\n", 3}, {"call x two to p.0.0 to q.0\n", 3}, {"call x two to n.1 to q.0\n", 3}, {"call x mix to p.0 of @m to q\n", 3}, {"call x mix to p.0 of , 1 2 to q\n", 3}, {"call x mix to p.0 of 1 to q.0\n", 3}, {"call x mix to p.0 of @m.0.0 to q\n", 3},
		{"call x two to n to m.0\n", 0}, {"let v 1\nlet w 2\ncall x two to v to w\n", 0},
		{"call x none\nset x , 1 2\n", 3}, {"call x none\nset x 2\n", 0}, {"call x mix to p.0 of 1 to q\nset x , 3 4\n", 0}, {"call x mix to p.0 of 1 to q\nset x 3\n", 3}, {"call x out to p.0 to p.1 of 1\nset x.0 1\n", 3},
	})
	// A function stands ahead just of those behind it; each is gone through, and the first fault counts.
	for _, c := range []struct {
		text     string
		code, at int
	}{
		{"fn a\ncall x b\nsays i 0\nfn b\nsays i 0\n", 2, 0},
		{"fn a\nsays i 0\nfn b\ncall x a\nsays i 0\nfn c\ncall x a\ncall y b\nsays i + @x @y\n", 0, 0},
		{"fn a\ncall x a\nsays i 0\n", 2, 0},
		{"fn b\nsays i 0\nfn a\ncall x a\nsays i 0\n", 2, 1},
		{"fn a\nsays i 0\nfn a\nsays i 0\n", 2, 1},
		{"fn a\nsays i 0\nfn b\nsays i 0\nfn a\nsays i @x\n", 2, 2},
		{"fn a\nsays i 0\nfn a\nsays (i,i) 0\n", 2, 1},
		{"fn a\nsays i 0\nfn a\nlet x 1\ngives i x\nfn a\nsays i 0\n", 2, 1},
		{"fn a\nsays (i,i) 0\nfn a\nsays i 0\n", 3, 0},
		{"fn a\nlet x 1\ngives i x\nfn b\nsays i @x\n", 5, 0},
		{"fn a\nsays i 0\nfn b\nsays i 0\nfn c\nsays i 0\nfn d\nsays i 0\nfn e\nlet x 1\ngives i x\n", 5, 4},
		{"fn a\nsays i 0\nfn b\nlent p i\nlend r p\nset p 1\nset r 2\nsays i 0\nfn c\nsays i @x\n", 4, 1},
		{"fn a\nlent p i\ngives i p\nfn b\ncall x a to n\nsays i 0\n", 2, 1},
		{"fn a\nhas n i\nsays i 0\nfn b\nsays i @n\n", 2, 1},
		{"fn a\nhas n i\nlet x 1\nsays i 0\nfn b\nhas n i\nlet x 1\nsays i 0\n", 0, 0},
		{"", 0, 0},
	} {
		mustCheck(t, mustRead(t, c.text), c.code, c.at)
	}
}

func TestTypesThatAreAskedFor(t *testing.T) {
	checkAll(t, ahead, head, []checkCase{
		{"says i @n\n", 0}, {"says i @m\n", 3}, {"says (i,i) @m\n", 0}, {"says (i,i) @n\n", 3}, {"says ((i,i),i) , @m @n\n", 0}, {"says (i,(i,i)) , @m @n\n", 3}, {"says i 9999\n", 0}, {"says (i,i) 0\n", 3},
		{"gives i p.0\n", 0}, {"gives (i,i) p\n", 0}, {"gives i p\n", 3}, {"gives (i,i) p.0\n", 3}, {"gives i p.0.0\n", 3}, {"gives (i,i) q\n", 0},
		{"says i + @n 1\n", 0}, {"says i + @m 1\n", 3}, {"says i + 1 @m\n", 3}, {"says i + @m @m\n", 3}, {"says i - @m 1\n", 3}, {"says i - 1 @m\n", 3}, {"says i < @m 1\n", 3}, {"says i < 1 @m\n", 3}, {"says i < @m @m\n", 3}, {"says i - @n @p.1\n", 0}, {"says i < @n @p.1\n", 0}, {"says i + , 1 2 3\n", 3}, {"says i + 1 , 2 3\n", 3}, {"says i < + 1 2 - 3 2\n", 0},
		{"says i + + @m 1 2\n", 3}, {"says (i,i) , + @m 1 2\n", 3}, {"says (i,i) , 2 < 1 @m\n", 3},
		{"let x @m\nset x @p\nset x.0 @n\n", 0}, {"let x @n.0\n", 3}, {"let x @m.0.1\n", 3}, {"let x @m.0\nset x @m\n", 3}, {"let x @m\nset x 1\n", 3},
		{"lend x p.1\nset x 1\n", 0}, {"lend x p.1.0\n", 3}, {"lend x n.0\n", 3}, {"lend x p\nset x @m\n", 0}, {"lend x p\nset x 1\n", 3}, {"lend x p\nset x.0 1\n", 0}, {"lend x p\nset x.0.0 1\n", 3},
		{"set n 1\n", 0}, {"set n @m\n", 3}, {"set m 1\n", 3}, {"set m , 1 2\n", 0}, {"set m.1 1\n", 0}, {"set m.1 @m\n", 3}, {"set m.1.1 1\n", 3}, {"set p @q\n", 0}, {"set p , @q 1\n", 3},
		{"if @n\nelse\nend\n", 0}, {"if @m\nelse\nend\n", 3}, {"if , 1 2\nelse\nend\n", 3}, {"if @m.0\nelse\nend\n", 0}, {"if + 1 @m\nelse\nend\n", 3},
		{"pick r p q @n\n", 0}, {"pick r p q @m\n", 3}, {"pick r p q , 1 2\n", 3}, {"pick r p q.0 1\n", 3}, {"pick r p.0 q 1\n", 3}, {"pick r p.0 q.1 1\n", 0}, {"pick r p.0.0 q.1 1\n", 3}, {"pick r p.0 q.1.1 1\n", 3}, {"pick r n m.0 1\nset r 1\n", 0}, {"pick r m p 1\nset r @q\n", 0}, {"pick r m p 1\nset r 1\n", 3},
	})
}

// A number is one deep, so three pairs in each other are as deep as may be.
func TestPairsThatAreTooDeep(t *testing.T) {
	head := "fn f\nhas a (((i,i),i),i)\nhas b (i,(i,(i,i)))\nhas c ((i,i),i)\n"
	checkAll(t, "", head, []checkCase{
		{"let x , , , 1 2 3 4\n", 0}, {"let x , 1 , 2 , 3 4\n", 0}, {"let x , @c @c\nset x.0 @c\n", 0}, {"let x , @c 1\nset x @a\n", 0},
		{"let x , @a 1\n", 3}, {"let x , 1 @a\n", 3}, {"let x , @b 1\n", 3}, {"let x , 1 @b\n", 3}, {"let x , @a @b\n", 3}, {"let x , @a.0 @b.1\n", 0}, {"let x , @a.0 @b\n", 3}, {"let x , @a @b.1\n", 3},
		{"let x , , @c 1 2\n", 3}, {"let x , 1 , 2 @c\n", 3}, {"let x , @c 1\nlet y , @x 1\n", 3}, {"let x , @c 1\nlet y , @x.0 1\n", 0},
		{"set a , @a 1\n", 3}, {"if , @a 1\nelse\nend\n", 3}, {"says (((i,i),i),i) , @c 1\n", 0}, {"says (((i,i),i),i) , @a 1\n", 3}, {"says i + 1 , 1 @a\n", 3}, {"says i @a.0.0.0\n", 0}, {"says i @a.0.0.0.0\n", 3}, {"says i @b.1.1.1\n", 0}, {"says i @b.1.1.1.1\n", 3}, {"lend r a.0.0.1\nset r 1\n", 0}, {"lend r a.0.0.1.0\n", 3},
	})
	checkAll(t, "fn g\nhas x (((i,i),i),i)\nsays i 0\n", head, []checkCase{{"call x g of , @c 1\n", 0}, {"call x g of , @a 1\n", 3}, {"call x g of , @c @c\n", 3}})
}

// lender is statements that lend to r the first part of BASE; if it is whole, by way of all of it.
type lender struct {
	lines string
	whole bool
}

func lenders() []lender {
	return []lender{
		{"lend r BASE.0\n", false},
		{"pick r BASE.0 q.0 @n\n", false},
		{"pick r q.0 BASE.0 @n\n", false},
		{"call r out to BASE.0 to q.0 of @n\n", false},
		{"call r out to q.0 to BASE.0 of @n\n", false},
		{"lend o BASE.0\nlend r o\n", false},
		{"lend o BASE\nlend r o.0\n", true},
		{"lend o BASE\npick r q.0 o.0 1\n", true},
		{"lend o BASE.0\ncall r out to o to q.0 of 1\n", false},
		{"pick o m BASE 1\nlend r o.0\n", true},
		{"call o out to q.0 to BASE.0 of 1\npick r m.0 o 1\n", false},
		{"lend a BASE\nlend b a.0\nlend c b\npick d q.0 c 1\ncall r out to m.0 to d of 0\n", true},
		{"lend a BASE.0\nif @n\nset a @q.0\nelse\nlend b a\nend\nlend r a\n", false},
	}
}

// lendTexts is programs up to what lends to r a part of this type: of a parameter that is lent, or not, of a name of its own, and of names that are lent.
func lendTexts(part string) map[string][]lender {
	pair := "(" + part + "," + part + ")"
	ahead := strings.ReplaceAll("fn two\nlent a i\nlent b i\nsays i 0\nfn mix\nlent a i\nhas n i\nlent b PART\nsays i @a\nfn out\nlent a PART\nlent b PART\nhas n i\npick c a b @n\ngives PART c\n", "PART", part)
	list := map[string][]lender{}
	for _, base := range []struct{ word, lines, name string }{{"lent", "", "p"}, {"has", "", "p"}, {"lent", "let v @p\n", "v"}, {"lent", "lend l p\n", "l"}, {"has", "lend k p\nlend l k\n", "l"}, {"lent", "let v @p\nlend k v\nlend l k\n", "l"}} {
		for _, x := range lenders() {
			head := "fn f\n" + base.word + " p " + pair + "\nlent q " + pair + "\nhas n i\nhas m " + pair + "\n"
			lines := ahead + head + base.lines + strings.ReplaceAll(x.lines, "BASE", base.name)
			list[base.name] = append(list[base.name], lender{lines, x.whole})
		}
	}
	return list
}

// liveBehind says whether the last function has the name r live behind all of its statements, which must be fine.
func liveBehind(t *testing.T, text string) bool {
	t.Helper()
	p := mustRead(t, text)
	mustCheck(t, p, 0, 0)
	last := len(p.Fns) - 1
	return slices.Contains(impl.CheckLive(p, last, len(p.Fns[last].Body)), "r")
}

// What is lent ends, when a place is used that it is lent from, or a part of that, or what that is a part of; else, and if it is used itself, it stays.
func TestWhatIsLentEnds(t *testing.T) {
	for base, list := range lendTexts("(i,i)") {
		for _, x := range list {
			meets := []string{"let z @BASE\n", "let z @BASE.0\n", "let z @BASE.0.0\n", "set BASE.0.1 5\n", "lend z BASE.0.0\n", "set BASE , @q.1 @q.1\n"}
			parts := []string{"let z @q.1\n", "set n @m.1.0\n", "let z @r.0\n", "set r.1 2\n", "lend z r\nlend y z.1\n", "set r , 1 2\n"}
			apart := []string{"let z @BASE.1\n", "set BASE.1.0 1\n", "lend z BASE.1\n"}
			if x.whole {
				meets = append(meets, apart...)
			} else {
				parts = append(parts, apart...)
			}
			for _, use := range meets {
				text := x.lines + strings.ReplaceAll(use, "BASE", base)
				if liveBehind(t, text+"says i 0\n") {
					t.Errorf("what is lent is live still behind\n%s", text)
				}
				mustCheck(t, mustRead(t, text+"set r.0 1\nsays i 0\n"), 4, 3)
			}
			for _, use := range parts {
				text := x.lines + strings.ReplaceAll(use, "BASE", base)
				if strings.Contains(x.lines, "o m ") && strings.Contains(use, "m.1") {
					continue
				}
				if !liveBehind(t, text+"says i 0\n") {
					t.Errorf("what is lent is live no longer behind\n%s", text)
				}
				mustCheck(t, mustRead(t, text+"set r.0 1\nsays i 0\n"), 0, 0)
			}
		}
	}
}

// To use is what each kind of statement does, wherever it has a place: in expressions, in what is lent, and in either way of a choice.
func TestEachUseOfAPlace(t *testing.T) {
	users := []string{
		"set PLACE 1\n", "let z @PLACE\n", "let z + 1 @PLACE\n", "let z , - @PLACE 1 2\n", "let z < 1 @PLACE\n",
		"lend z PLACE\n", "set n @PLACE\n", "pick z PLACE n 1\n", "pick z n PLACE 1\n", "pick z n m.1 @PLACE\n",
		"if @PLACE\nelse\nend\n", "if 1\nset PLACE 1\nelse\nend\n", "if 1\nelse\nlet z @PLACE\nend\n", "if 1\nelse\nif 1\nlend z PLACE\nelse\nend\nend\n", "if 0\nif 1\nelse\nlend z PLACE\nend\nelse\nend\n",
		"call z two to PLACE to n\n", "call z two to n to PLACE\n", "call z mix to n of @PLACE to m.1\n", "call z mix to n of - 3 @PLACE to m.1\n", "call z out to PLACE to n of 1\n", "call z out to n to PLACE of 1\n", "call z out to n to m.1 of @PLACE\n",
	}
	for base, list := range lendTexts("i") {
		for _, x := range list {
			for _, user := range users {
				text := x.lines + strings.ReplaceAll(user, "PLACE", base+".0")
				if liveBehind(t, text+"says i 0\n") {
					t.Errorf("what is lent is live still behind\n%s", text)
				}
				if strings.Contains(x.lines, "o m ") {
					continue
				}
				text = x.lines + strings.ReplaceAll(user, "PLACE", "r")
				if !liveBehind(t, text+"says i 0\n") {
					t.Errorf("what is lent is live no longer behind\n%s", text)
				}
			}
		}
	}
}
