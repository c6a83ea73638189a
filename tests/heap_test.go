package tests

import (
	"math"
	"slices"
	"strings"
	"testing"

	"loop.example/handfast/impl"
)

func TestHeapConstants(t *testing.T) {
	if got := []int{impl.HeapFine, impl.HeapFail, impl.HeapBad}; !slices.Equal(got, []int{0, 1, 9}) {
		t.Error(got)
	}
}

// runCase is a run, as the values of the arguments, `>`, and what is written through, and what should come of it, as outText tells it.
type runCase struct {
	given string
	want  string
}

// runText runs a function of a program, and holds the tests' own rules against what should come of it, too.
func runText(t *testing.T, p impl.Prog, at int, c runCase) {
	t.Helper()
	first, second, _ := strings.Cut(c.given, ">")
	args, through := valsFrom(first), valsFrom(second)
	if got := outText(ran(t, p, at, args, through)); got != c.want {
		t.Errorf("run %d with %q %s, it should be: %s, in\n%s", at, c.given, got, c.want, textOf(p))
	}
	if got := outText(runOf(p, at, args, through)); got != c.want {
		t.Errorf("the tests' own rules: run %d with %q %s, it should be: %s, in\n%s", at, c.given, got, c.want, textOf(p))
	}
	if c.want == "bad" {
		return
	}
	if _, late := watchedOf(p, at, args, through); late {
		t.Errorf("the tests' own rules: run %d with %q uses what has ended, in\n%s", at, c.given, textOf(p))
	}
}

// runLast runs the last function of a program in several ways.
func runLast(t *testing.T, text string, list ...runCase) {
	t.Helper()
	p := mustRead(t, text)
	for _, c := range list {
		runText(t, p, len(p.Fns)-1, c)
	}
}

// runAhead is functions that are called: such that say a number and a pair, and such that give out a place of one and of two.
const runAhead = "fn inc\nlent a i\nset a + @a 1\nsays i @a\nfn swap\nlent a (i,i)\nlet b @a.0\nset a.0 @a.1\nset a.1 @b\nsays (i,i) @a\nfn snd\nlent a (i,i)\ngives i a.1\nfn one\nlent a i\nlent b i\nhas n i\npick c a b @n\ngives i c\n"

const runHead = "fn f\nlent p (i,i)\nlent q i\nhas n i\nhas m (i,i)\n"

// lineCase is the lines of a function, what is written through, and what should come of it.
type lineCase struct {
	lines   string
	through string
	want    string
}

// runLines runs functions of these lines, with p (1,2), q 3, n 4 and m (5,6).
func runLines(t *testing.T, list []lineCase) {
	t.Helper()
	for _, c := range list {
		text := runAhead + runHead + c.lines
		if !strings.Contains(c.lines, "says") && !strings.Contains(c.lines, "gives") {
			text += "says i 0\n"
		}
		runLast(t, text, runCase{"(1,2) 3 4 (5,6) > " + c.through, c.want})
	}
}

func TestRunsOfExpressions(t *testing.T) {
	runLines(t, []lineCase{
		{"says i 0\n", "", "says 0 leaves (1,2) 3"}, {"says i 7\n", "", "says 7 leaves (1,2) 3"}, {"says i 9999\n", "", "says 9999 leaves (1,2) 3"},
		{"says i @n\n", "", "says 4 leaves (1,2) 3"}, {"says i @q\n", "", "says 3 leaves (1,2) 3"}, {"says i @p.0\n", "", "says 1 leaves (1,2) 3"}, {"says i @p.1\n", "", "says 2 leaves (1,2) 3"}, {"says i @m.1\n", "", "says 6 leaves (1,2) 3"},
		{"says (i,i) @p\n", "", "says (1,2) leaves (1,2) 3"}, {"says (i,i) @m\n", "", "says (5,6) leaves (1,2) 3"},
		{"says i + @n 5\n", "", "says 9 leaves (1,2) 3"}, {"says i + 5 @n\n", "", "says 9 leaves (1,2) 3"}, {"says i + @n @n\n", "", "says 8 leaves (1,2) 3"},
		{"says i - @n 1\n", "", "says 3 leaves (1,2) 3"}, {"says i - @n 4\n", "", "says 0 leaves (1,2) 3"}, {"says i - 9 @n\n", "", "says 5 leaves (1,2) 3"},
		{"says i < @n 5\n", "", "says 1 leaves (1,2) 3"}, {"says i < @n 4\n", "", "says 0 leaves (1,2) 3"}, {"says i < 5 @n\n", "", "says 0 leaves (1,2) 3"}, {"says i < @p.0 @p.1\n", "", "says 1 leaves (1,2) 3"}, {"says i < 0 9999\n", "", "says 1 leaves (1,2) 3"},
		{"says (i,i) , @n 1\n", "", "says (4,1) leaves (1,2) 3"}, {"says (i,i) , @p.1 @p.0\n", "", "says (2,1) leaves (1,2) 3"}, {"says ((i,i),i) , @m @n\n", "", "says ((5,6),4) leaves (1,2) 3"}, {"says (i,(i,i)) , 0 @p\n", "", "says (0,(1,2)) leaves (1,2) 3"},
		{"says i + + 1 2 - 9 @n\n", "", "says 8 leaves (1,2) 3"}, {"says i - - 9 2 3\n", "", "says 4 leaves (1,2) 3"}, {"says i - 9 - 2 1\n", "", "says 8 leaves (1,2) 3"}, {"says i + < 1 2 < 2 < 3 4\n", "", "says 1 leaves (1,2) 3"},
		{"says (((i,i),i),i) , , , 1 2 3 4\n", "", "says (((1,2),3),4) leaves (1,2) 3"}, {"says ((i,i),(i,i)) , , 1 + 1 1 , - 4 1 < 1 2\n", "", "says ((1,2),(3,1)) leaves (1,2) 3"},
	})
}

func TestRunsWithNamesOfTheirOwn(t *testing.T) {
	runLines(t, []lineCase{
		{"let x @n\nset x 9\nsays (i,i) , @x @n\n", "", "says (9,4) leaves (1,2) 3"},
		{"let x @p\nset x.0 9\nsays (i,i) @x\n", "", "says (9,2) leaves (1,2) 3"},
		{"let x @p\nset p.0 9\nsays (i,i) @x\n", "", "says (1,2) leaves (9,2) 3"},
		{"let x @m\nset m.1 9\nsays (i,i) @x\n", "", "says (5,6) leaves (1,2) 3"},
		{"let x , @m @p\nset x.0.1 9\nset p.0 8\nsays ((i,i),(i,i)) @x\n", "", "says ((5,9),(1,2)) leaves (8,2) 3"},
		{"let x , @m @m\nset x.0.1 9\nsays ((i,i),(i,i)) @x\n", "", "says ((5,9),(5,6)) leaves (1,2) 3"},
		{"let x 1\nlet y @x\nset x 2\nsays (i,i) , @x @y\n", "", "says (2,1) leaves (1,2) 3"},
		{"set n 9\nsays i @n\n", "", "says 9 leaves (1,2) 3"}, {"set m.0 8\nsays (i,i) @m\n", "", "says (8,6) leaves (1,2) 3"}, {"set m , 7 8\nsays (i,i) @m\n", "", "says (7,8) leaves (1,2) 3"},
	})
}

// A part is set, and the whole behind it, and the other way round; what is read while it is written was read ahead.
func TestRunsThatSet(t *testing.T) {
	runLines(t, []lineCase{
		{"set q 9\n", "", "says 0 leaves (1,2) 9"}, {"set p.0 9\n", "", "says 0 leaves (9,2) 3"}, {"set p.1 9\n", "", "says 0 leaves (1,9) 3"}, {"set p , 8 9\n", "", "says 0 leaves (8,9) 3"},
		{"set p.0 7\nset p , 8 9\n", "", "says 0 leaves (8,9) 3"}, {"set p , 8 9\nset p.0 7\n", "", "says 0 leaves (7,9) 3"}, {"set p , 8 9\nset p.1 7\nset p.0 @p.1\n", "", "says 0 leaves (7,7) 3"},
		{"set p , @p.1 @p.0\n", "", "says 0 leaves (2,1) 3"}, {"set p @p\n", "", "says 0 leaves (1,2) 3"}, {"set q + @q @q\nset q + @q @q\n", "", "says 0 leaves (1,2) 12"},
		{"set p @m\nset m.0 9\n", "", "says 0 leaves (5,6) 3"}, {"set p @m\nset p.0 9\nsays (i,i) @m\n", "", "says (5,6) leaves (9,6) 3"}, {"set m @p\nset m.1 9\nsays (i,i) @m\n", "", "says (1,9) leaves (1,2) 3"},
		{"set p.0 @p.1\nset p.1 @q\nset q @p.0\n", "", "says 0 leaves (2,3) 2"}, {"set q 9\nset q 8\nset q 7\n", "", "says 0 leaves (1,2) 7"},
	})
	runLast(t, "fn f\nlent p ((i,i),(i,i))\nset p , @p.1 @p.0\nset p.0.1 9\nsays ((i,i),(i,i)) @p\n", runCase{"((1,2),(3,4))", "says ((3,9),(1,2)) leaves ((3,9),(1,2))"})
	runLast(t, "fn f\nlent p ((i,i),(i,i))\nset p.0 @p.1\nset p.1.0 9\nset p , @p.0 @p.0\nset p.1.1 8\nsays i 0\n", runCase{"((1,2),(3,4))", "says 0 leaves ((3,4),(3,8))"})
	runLast(t, "fn f\nlent p (((i,i),i),i)\nlent q ((i,i),i)\nset p.0 @q\nset q.0 , 8 9\nset p.0.0.1 7\nsays i 0\n", runCase{"(((1,2),3),4) ((5,6),7)", "says 0 leaves (((5,7),7),4) ((8,9),7)"})
}

// What is written through a name that is lent from a parameter, a name of its own, or one that is lent itself, is read by way of that.
func TestRunsThatLend(t *testing.T) {
	runLines(t, []lineCase{
		{"lend r q\nset r 9\nsays i @q\n", "", "says 9 leaves (1,2) 9"}, {"lend r q\nset r + @r @n\nsays i @r\n", "", "says 7 leaves (1,2) 7"},
		{"lend r p.0\nset r 9\nsays (i,i) @p\n", "", "says (9,2) leaves (9,2) 3"}, {"lend r p\nset r.1 9\nsays i @p.1\n", "", "says 9 leaves (1,9) 3"}, {"lend r p\nset r , 8 9\nset r.0 7\n", "", "says 0 leaves (7,9) 3"}, {"lend r p\nset r.0 7\nset r , 8 9\n", "", "says 0 leaves (8,9) 3"},
		{"lend r p\nlend s r.1\nset s 9\nsays i @r.1\n", "", "says 9 leaves (1,9) 3"}, {"lend r p\nlend s r\nlend u s.0\nset u 9\nset s.1 8\nset r.1 7\nsays (i,i) @p\n", "", "says (9,7) leaves (9,7) 3"},
		{"let x , 1 2\nlend r x.0\nset r 9\nsays (i,i) @x\n", "", "says (9,2) leaves (1,2) 3"}, {"let x 1\nlend r x\nlend s r\nset s 9\nsays i @x\n", "", "says 9 leaves (1,2) 3"},
		{"lend r m.1\nset r 9\nsays (i,i) @m\n", "", "says (5,9) leaves (1,2) 3"}, {"lend r n\nset r 9\nsays i + @n 1\n", "", "says 10 leaves (1,2) 3"},
		{"lend r p.0\nset p.1 9\nset r 8\nsays i + @p.0 @p.1\n", "", "says 17 leaves (8,9) 3"}, {"lend r p.0\nlend s p.1\nset r @s\nset s @q\n", "", "says 0 leaves (2,3) 3"},
		{"lend r p.0\nlet x @r\nset r 9\nsays (i,i) , @x @r\n", "", "says (1,9) leaves (9,2) 3"}, {"lend r p\nset p , 8 9\nlend s p\nset s.0 7\n", "", "says 0 leaves (7,9) 3"},
	})
}

func TestRunsThatPick(t *testing.T) {
	runLines(t, []lineCase{
		{"pick r p.0 q 1\nset r 9\n", "", "says 0 leaves (9,2) 3"}, {"pick r p.0 q 0\nset r 9\n", "", "says 0 leaves (1,2) 9"}, {"pick r p.0 q @n\nset r 9\n", "", "says 0 leaves (9,2) 3"}, {"pick r p.0 q < @n 4\nset r 9\n", "", "says 0 leaves (1,2) 9"}, {"pick r p.0 q 9999\nset r 9\nsays i @p.0\n", "", "says 9 leaves (9,2) 3"},
		{"pick r p.0 q 1\nsays i @r\n", "", "says 1 leaves (1,2) 3"}, {"pick r p.0 q 0\nsays i @r\n", "", "says 3 leaves (1,2) 3"},
		{"pick r p m @n\nset r.1 9\nsays (i,i) @m\n", "", "says (5,6) leaves (1,9) 3"}, {"pick r p m 0\nset r.1 9\nsays (i,i) @m\n", "", "says (5,9) leaves (1,2) 3"}, {"pick r p m 0\nset r , 8 9\nsays (i,i) @m\n", "", "says (8,9) leaves (1,2) 3"},
		{"pick r p.0 p.1 0\nset r 9\nsays (i,i) @p\n", "", "says (1,9) leaves (1,9) 3"}, {"lend r p.0\nlend s p.1\npick u r s 0\nset u 9\nsays (i,i) , @r @s\n", "", "says (1,9) leaves (1,9) 3"},
		{"pick r p.0 p.1 0\npick s r q 1\nset s 9\nsays i @r\n", "", "says 9 leaves (1,9) 3"}, {"pick r p.0 p.1 1\npick s q r 0\nlend u s\nset u 9\n", "", "says 0 leaves (9,2) 3"},
		{"let x 1\nlet y 2\npick r x y 1\nset r 9\nsays (i,i) , @x @y\n", "", "says (9,2) leaves (1,2) 3"}, {"let x 1\nlet y 2\npick r x y 0\nset r 9\nsays (i,i) , @x @y\n", "", "says (1,9) leaves (1,2) 3"},
	})
}

func TestRunsThatChoose(t *testing.T) {
	runLines(t, []lineCase{
		{"if @n\nset q 9\nelse\nset q 8\nend\n", "", "says 0 leaves (1,2) 9"}, {"if 0\nset q 9\nelse\nset q 8\nend\n", "", "says 0 leaves (1,2) 8"}, {"if 1\nset q 9\nelse\nset q 8\nend\n", "", "says 0 leaves (1,2) 9"}, {"if 9999\nset q 9\nelse\nset q 8\nend\n", "", "says 0 leaves (1,2) 9"}, {"if < @n 4\nset q 9\nelse\nset q 8\nend\n", "", "says 0 leaves (1,2) 8"},
		{"if @n\nelse\nset q 8\nend\n", "", "says 0 leaves (1,2) 3"}, {"if 0\nset q 9\nelse\nend\n", "", "says 0 leaves (1,2) 3"}, {"if @n\nset q 9\nelse\nend\n", "", "says 0 leaves (1,2) 9"}, {"if 0\nelse\nset q 8\nend\n", "", "says 0 leaves (1,2) 8"}, {"if 1\nelse\nend\nif 0\nelse\nend\n", "", "says 0 leaves (1,2) 3"},
		{"if @n\nset q 9\nset p.0 8\nset q 7\nelse\nend\nset p.1 6\n", "", "says 0 leaves (8,6) 7"}, {"if @n\nlet x 7\nset q @x\nelse\nlet y 8\nset q @y\nend\n", "", "says 0 leaves (1,2) 7"}, {"if 0\nlet x 7\nset q @x\nelse\nlet y 8\nset q @y\nend\n", "", "says 0 leaves (1,2) 8"},
		{"lend r q\nif @n\nset r 9\nelse\nend\nsays i @q\n", "", "says 9 leaves (1,2) 9"}, {"if @n\nlend r p.1\nset r 9\nelse\nlend s q\nset s 9\nend\nsays (i,i) @p\n", "", "says (1,9) leaves (1,9) 3"}, {"if 0\npick r p.0 p.1 0\nset r 9\nelse\npick s p.0 p.1 0\nset s 8\nend\n", "", "says 0 leaves (1,8) 3"}, {"if 1\ncall x snd to p\nset x 9\nelse\ncall y inc to q\nend\n", "", "says 0 leaves (1,9) 3"},
		{"set n 0\nif @n\nset q 9\nelse\nset n 1\nend\nif @n\nset q 8\nelse\nend\nsays i @n\n", "", "says 1 leaves (1,2) 8"}, {"let x 0\nif @q\nset x 5\nelse\nend\nsays i @x\n", "", "says 5 leaves (1,2) 3"},
	})
	// A choice in a choice, on each way.
	text := "fn f\nlent q i\nhas a i\nhas b i\nhas c i\nif @a\nif @b\nset q 1\nelse\nif @c\nset q 2\nelse\nset q 3\nend\nend\nset q + @q 10\nelse\nif @b\nelse\nset q 4\nend\nif @c\nset q + @q 5\nelse\nend\nend\nset q + @q 100\nsays i @q\n"
	runLast(t, text, runCase{"50 1 1 0", "says 111 leaves 111"}, runCase{"50 7 0 8", "says 112 leaves 112"}, runCase{"50 1 0 0", "says 113 leaves 113"}, runCase{"50 0 0 0", "says 104 leaves 104"}, runCase{"50 0 0 3", "says 109 leaves 109"}, runCase{"50 0 1 1", "says 155 leaves 155"}, runCase{"50 0 1 0", "says 150 leaves 150"})
	deep := "fn f\nhas a i\nlent q i\nif < @a 8\nif < @a 4\nif < @a 2\nset q 1\nelse\nset q 2\nend\nelse\nif < @a 6\nset q 3\nelse\nset q 4\nend\nend\nelse\nend\nsays i 0\n"
	runLast(t, deep, runCase{"1 9", "says 0 leaves 1"}, runCase{"3 9", "says 0 leaves 2"}, runCase{"5 9", "says 0 leaves 3"}, runCase{"7 9", "says 0 leaves 4"}, runCase{"8 9", "says 0 leaves 9"})
}

func TestRunsThatCall(t *testing.T) {
	runLines(t, []lineCase{
		{"call x inc to q\nsays i @x\n", "", "says 4 leaves (1,2) 4"}, {"call x inc to q\ncall y inc to q\nsays (i,i) , @x @y\n", "", "says (4,5) leaves (1,2) 5"}, {"call x inc to q\nset x 9\nsays i @q\n", "", "says 4 leaves (1,2) 4"}, {"call x inc to n\nsays i @n\n", "", "says 5 leaves (1,2) 3"},
		{"call x inc to p.1\n", "", "says 0 leaves (1,3) 3"}, {"call x swap to p\n", "", "says 0 leaves (2,1) 3"}, {"call x swap to m\nsays (i,i) @m\n", "", "says (6,5) leaves (1,2) 3"}, {"call x swap to p\nset x.0 9\nsays (i,i) @x\n", "", "says (9,1) leaves (2,1) 3"}, {"call x swap to p\nset p.0 9\nsays (i,i) @x\n", "", "says (2,1) leaves (9,1) 3"},
		{"lend r p.1\ncall x inc to r\nset r + @r 5\nsays i @r\n", "", "says 8 leaves (1,8) 3"}, {"pick r p.0 q 0\ncall x inc to r\n", "", "says 0 leaves (1,2) 4"}, {"let v , 7 8\nlend r v\ncall x swap to r\nsays (i,i) @v\n", "", "says (8,7) leaves (1,2) 3"}, {"call x inc to q\ncall y inc to x\nsays i @x\n", "", "says 5 leaves (1,2) 4"},
	})
	// What is not lent is a place of its own: what is set there is not seen by who called.
	runLast(t, "fn g\nhas n i\nhas m (i,i)\nset n 9\nset m.0 8\nsays (i,(i,i)) , @n @m\nfn f\nlent p (i,i)\nhas n i\ncall x g of @n of @p\ncall y g of @p.1 of , @n @n\nsays ((i,(i,i)),(i,(i,i))) , @x @y\n", runCase{"(1,2) 4", "says ((9,(8,2)),(9,(8,4))) leaves (1,2)"})
	// Arguments are told in their order, lent or not, whatever the parameters' names are.
	runLast(t, "fn g\nlent a i\nhas b i\nlent c i\nhas d i\nset a + @a @b\nset c - @c @d\nsays i @b\nfn f\nlent c i\nlent a i\nhas d i\ncall b g to c of @d to a of 2\nsays i @b\n", runCase{"10 20 5", "says 5 leaves 15 18"})
	runLast(t, "fn g\nsays i 7\nfn f\ncall x g\ncall y g\nset x 1\nsays (i,i) , @x @y\n", runCase{"", "says (1,7) leaves"})
}

// What is written through a place that a function gave out is read by way of what was lent to it.
func TestRunsThatCallForAPlace(t *testing.T) {
	runLines(t, []lineCase{
		{"call x snd to p\nset x 9\nsays (i,i) @p\n", "", "says (1,9) leaves (1,9) 3"}, {"call x snd to m\nset x 9\nsays (i,i) @m\n", "", "says (5,9) leaves (1,2) 3"}, {"call x snd to p\nsays i @x\n", "", "says 2 leaves (1,2) 3"}, {"let v , @n 7\ncall x snd to v\nset x 9\nsays (i,i) @v\n", "", "says (4,9) leaves (1,2) 3"}, {"lend r p\ncall x snd to r\nset x 9\nsays i @r.1\n", "", "says 9 leaves (1,9) 3"},
		{"call x snd to p\ncall y inc to x\nsays i @x\n", "", "says 3 leaves (1,3) 3"}, {"call x snd to p\nlend r x\nset r 9\n", "", "says 0 leaves (1,9) 3"}, {"call x snd to p\npick r q x 0\nset r 9\n", "", "says 0 leaves (1,9) 3"},
		{"call x one to p.0 to q of 1\nset x 9\nsays i @p.0\n", "", "says 9 leaves (9,2) 3"}, {"call x one to p.0 to q of 0\nset x 9\nsays i @q\n", "", "says 9 leaves (1,2) 9"}, {"call x one to p.0 to p.1 of < @n 4\nset x 9\n", "", "says 0 leaves (1,9) 3"}, {"call x one to q to p.0 of @n\nset x + @x @n\nsays i @x\n", "", "says 7 leaves (1,2) 7"},
		{"call x snd to p\ncall y one to x to q of 1\nset y 9\nsays i @x\n", "", "says 9 leaves (1,9) 3"}, {"call x one to p.0 to q of 0\ncall y one to p.1 to x of 0\nset y 9\n", "", "says 0 leaves (1,2) 9"}, {"call x snd to p\ncall y snd to m\nset x @y\nset y 9\nsays (i,i) @m\n", "", "says (5,9) leaves (1,6) 3"},
	})
}

// A function calls one that calls another one, each with places that are lent on.
func TestRunsThatCallOthersThatCall(t *testing.T) {
	text := "fn inc\nlent a i\nhas n i\nset a + @a @n\nsays i @a\nfn both\nlent p (i,i)\nlend r p.1\ncall x inc to p.0 of 1\ncall y inc to r of 10\nset r + @r 100\nsays i + @x @y\nfn all\nlent p ((i,i),i)\nlent q (i,i)\nlend r p\ncall x both to r.0\ncall y both to q\nset r.1 + @x @y\ncall z inc to p.1 of @q.0\nsays (i,i) , @x @y\n"
	runLast(t, text, runCase{"((1,2),3) (4,5)", "says (14,20) leaves ((2,112),39) (5,115)"}, runCase{"((9998,0),0) (0,0)", "fails"}, runCase{"((9000,0),0) (0,0)", "says (9011,11) leaves ((9001,110),9023) (1,110)"}, runCase{"((0,9889),0) (0,0)", "says (9900,11) leaves ((1,9999),9912) (1,110)"}, runCase{"((0,9890),0) (0,0)", "fails"})
	runLast(t, text+"fn top\nlent q (i,i)\nhas n i\nlet v , , 1 2 @n\ncall x all to v to q\nset q.0 @v.1\nsays ((i,i),i) @v\n", runCase{"(4,5) 3", "says ((2,112),39) leaves (39,115)"})
	// The same of places that are given out, by way of three functions; each lends on what was lent to it.
	out := "fn fst\nlent p (i,i)\ngives i p.0\nfn in\nlent p ((i,i),i)\nlend r p.0\ncall x fst to r\nset x + @x 1\ngives i x\nfn pic\nlent p ((i,i),i)\nlent q i\nhas n i\ncall x in to p\npick r x q @n\ngives i r\n"
	runLast(t, out, runCase{"((1,2),3) 4 1 > 9", "says 2 leaves ((9,2),3) 4"}, runCase{"((1,2),3) 4 0 > 9", "says 4 leaves ((2,2),3) 9"})
	runLast(t, out+"fn use\nlent p ((i,i),i)\nhas n i\nlet k @p.1\ncall x pic to p to n of @k\nset x + @x 5\ncall y in to p\nset p.1 @p.0.0\nsays (i,i) , @p.0.0 @n\n", runCase{"((1,2),3) 4", "says (8,4) leaves ((8,2),8)"}, runCase{"((1,2),0) 4", "says (3,9) leaves ((3,2),3)"})
	runLast(t, out+"fn up\nlent p ((i,i),i)\nlent q ((i,i),i)\nhas n i\ncall x pic to p to q.1 of @n\nset x 50\ncall y in to q\ncall z pic to p to y of 0\nset z + @z 7\ngives i z\n", runCase{"((1,2),3) ((4,5),6) 1 > 99", "says 12 leaves ((51,2),3) ((99,5),6)"}, runCase{"((1,2),3) ((4,5),6) 0 > 99", "says 12 leaves ((3,2),3) ((99,5),50)"})
}

// What is written through is there behind all else, in the one place that is given out; what was there is told.
func TestRunsThatAreWrittenThrough(t *testing.T) {
	runLines(t, []lineCase{
		{"gives i p.1\n", "9", "says 2 leaves (1,9) 3"}, {"gives i p.0\n", "9", "says 1 leaves (9,2) 3"}, {"gives i q\n", "9", "says 3 leaves (1,2) 9"}, {"gives (i,i) p\n", "(8,9)", "says (1,2) leaves (8,9) 3"}, {"gives i q\n", "0", "says 3 leaves (1,2) 0"}, {"gives i q\n", "9999", "says 3 leaves (1,2) 9999"}, {"gives i q\n", "3", "says 3 leaves (1,2) 3"},
		{"lend r p\ngives i r.0\n", "9", "says 1 leaves (9,2) 3"}, {"lend r p\nlend s r\ngives (i,i) s\n", "(8,9)", "says (1,2) leaves (8,9) 3"}, {"pick r p.0 q 0\ngives i r\n", "9", "says 3 leaves (1,2) 9"}, {"pick r p.0 q 1\ngives i r\n", "9", "says 1 leaves (9,2) 3"},
		{"call x snd to p\ngives i x\n", "9", "says 2 leaves (1,9) 3"}, {"call x one to p.0 to q of 0\ngives i x\n", "9", "says 3 leaves (1,2) 9"}, {"call x one to p.0 to q of @n\ngives i x\n", "9", "says 1 leaves (9,2) 3"},
		{"set p.0 7\ngives (i,i) p\n", "(8,9)", "says (7,2) leaves (8,9) 3"}, {"set q 7\nset p , 5 6\ngives i p.1\n", "9", "says 6 leaves (5,9) 7"}, {"call x swap to p\ncall y inc to q\ngives i p.0\n", "9", "says 2 leaves (9,1) 4"}, {"lend r p.0\nset r + @r @n\ngives i p.0\n", "9", "says 5 leaves (9,2) 3"},
		{"if @n\nset p.0 8\nelse\nset p.1 8\nend\ngives (i,i) p\n", "(6,7)", "says (8,2) leaves (6,7) 3"},
	})
	runLast(t, "fn f\nlent a (i,(i,i))\nhas k i\nlent b (i,i)\nlent c i\npick r a.1 b @k\nset r.0 + @r.0 @c\ngives (i,i) r\n", runCase{"(1,(2,3)) 1 (4,5) 6 > (7,8)", "says (8,3) leaves (1,(7,8)) (4,5) 6"}, runCase{"(1,(2,3)) 0 (4,5) 6 > (7,8)", "says (10,5) leaves (1,(2,3)) (7,8) 6"})
	runLast(t, "fn f\nlent a (((i,i),i),i)\ngives ((i,i),i) a.0\n", runCase{"(((1,2),3),4) > ((5,6),7)", "says ((1,2),3) leaves (((5,6),7),4)"})
}

// failSites is the places where an expression may stand, with `E` for it; all else there does not fail.
var failSites = []string{
	"let x E\n", "set q E\n", "set p.1 E\n", "set n E\n", "let r E\nset r 1\n", "lend r q\nset r E\n",
	"if E\nset q 1\nelse\nset q 2\nend\n", "if E\nelse\nend\n", "pick r p.0 q E\nset r 1\n",
	"call x id of E\n", "call x add to q of E of 0\n", "call x add to q of 0 of E\n", "call x out to q of E\nset x 1\n",
	"says i E\n", "says (i,i) , E 1\n", "says (i,i) , 1 E\n",
	"let x , E 1\n", "let x , 1 E\n", "set p , E 1\n", "set p , 1 E\n", "let x + 0 E\n", "let x - E 0\n", "let x < E 1\n", "let x < 0 E\n", "let x , , 1 E 2\n",
	"if < 0 E\nset q 1\nelse\nend\n", "call x id of + 0 E\n",
	"set q 7\nset p , 8 9\nlet x E\n", "lend r p.0\nset r 7\nset p.1 8\nset q E\n", "call x id of 3\nset q @x\nsays i E\n", "pick r p.0 q 0\nset r 7\nlet x E\n",
	"if 1\nset q 7\nlet x E\nelse\nend\n", "if 0\nelse\nset q 7\nset p.0 E\nend\n", "if 1\nif 0\nelse\nlet x E\nend\nelse\nend\nset q 1\n",
	"let x E\ngives i p.0\n", "set q E\ngives i q\n", "pick r p.0 q E\ngives i r\n", "call x out to q of E\ngives i x\n",
}

// What fails just behind the edge, and not at it, does so wherever it stands; nothing else is told then, whatever was written.
func TestRunsThatFail(t *testing.T) {
	head := "fn id\nhas a i\nsays i @a\nfn add\nlent a i\nhas b i\nhas c i\nset a @b\nsays i @c\nfn out\nlent a i\nhas b i\nset a @b\ngives i a\nfn f\nlent p (i,i)\nlent q i\nhas n i\n"
	for _, site := range failSites {
		for _, edge := range []struct{ expr, fine, fails string }{
			{"+ @n 9994", "5", "6"}, {"+ 9994 @n", "5", "6"}, {"+ @n 9999", "0", "1"}, {"+ @n 1", "9998", "9999"}, {"+ @n @n", "4999", "5000"},
			{"- @n 5", "5", "4"}, {"- 5 @n", "5", "6"}, {"- @n 1", "1", "0"}, {"- @n 9999", "9999", "9998"}, {"- 0 @n", "0", "9999"},
		} {
			lines := strings.ReplaceAll(site, "E", edge.expr)
			through := ""
			if strings.Contains(lines, "gives") {
				through = " > 1"
			} else if !strings.Contains(lines, "says") {
				lines += "says i 0\n"
			}
			p := mustRead(t, head+lines)
			args, back := valsFrom("(1,2) 3 "+edge.fine), valsFrom(strings.TrimPrefix(through, " >"))
			if got := ran(t, p, 3, args, back); got.Code != 0 || !sameThing(got, runOf(p, 3, args, back)) {
				t.Errorf("with %s it %s:\n%s", edge.fine, outText(got), lines)
			}
			runText(t, p, 3, runCase{"(1,2) 3 " + edge.fails + through, "fails"})
		}
	}
}

// In a function that is called, and in one that this calls, behind places that were written already.
func TestRunsThatFailInACall(t *testing.T) {
	low := "fn low\nlent a i\nhas n i\nset a 1\nset a + 9000 @n\nsays i @a\n"
	mid := low + "fn mid\nlent p (i,i)\nhas n i\nset p.0 7\ncall x low to p.1 of @n\nset p.0 @x\ngives i p.0\n"
	top := mid + "fn top\nlent p (i,i)\nlent q i\nhas n i\nset q 8\ncall x mid to p of @n\nset x 5\nsays i @p.1\n"
	runLast(t, low, runCase{"3 999", "says 9999 leaves 9999"}, runCase{"3 1000", "fails"})
	runLast(t, mid, runCase{"(1,2) 999 > 4", "says 9999 leaves (4,9999)"}, runCase{"(1,2) 1000 > 4", "fails"})
	runLast(t, top, runCase{"(1,2) 3 999", "says 9999 leaves (5,9999) 8"}, runCase{"(1,2) 3 1000", "fails"})
	runLast(t, top+"fn over\nhas n i\nlet v , 1 2\nlet w 3\ncall x top to v to w of @n\nsays (i,(i,i)) , @w @v\n", runCase{"999", "says (8,(5,9999)) leaves"}, runCase{"1000", "fails"})
	// What is said, or an argument, of a function that is called.
	runLast(t, "fn g\nhas n i\nsays i - @n 5\nfn f\nlent q i\nhas n i\nset q 9\ncall x g of @n\nsays i @x\n", runCase{"1 5", "says 0 leaves 9"}, runCase{"1 4", "fails"})
	// A run that fails says so whatever would be written through.
	runLast(t, "fn f\nlent q i\nhas n i\nset q + @q @n\ngives i q\n", runCase{"9999 1 > 0", "fails"}, runCase{"9998 1 > 0", "says 9999 leaves 0"})
}

// What is on a way that is not taken does not fail, nor what is not called.
func TestWhatIsNotDoneDoesNotFail(t *testing.T) {
	for _, bad := range []string{"let x + 9999 1\n", "set n - 0 1\n", "if + 9999 1\nelse\nend\n", "pick r n q.0 - 0 1\n", "call x id of - 0 1\n", "call x bad\n", "if 1\nset q , + 9999 1 1\nelse\nend\n"} {
		head := "fn id\nhas a i\nsays i @a\nfn bad\nsays i + 9999 1\nfn f\nlent q (i,i)\nhas n i\n"
		runLast(t, head+"if @n\n"+bad+"else\nset q.0 9\nend\nsays i 7\n", runCase{"(1,2) 0", "says 7 leaves (9,2)"}, runCase{"(1,2) 1", "fails"})
		runLast(t, head+"if @n\nset q.0 9\nelse\n"+bad+"end\nsays i 7\n", runCase{"(1,2) 1", "says 7 leaves (9,2)"})
		runLast(t, head+"if @n\nif @q.0\nset q.0 9\nelse\n"+bad+"end\nelse\nend\nsays i 7\n", runCase{"(1,2) 1", "says 7 leaves (9,2)"}, runCase{"(1,2) 0", "says 7 leaves (1,2)"}, runCase{"(0,2) 1", "fails"}, runCase{"(0,2) 0", "says 7 leaves (0,2)"})
	}
	runLast(t, "fn bad\nsays i + 9999 1\nfn f\nlent q i\nset q 4\nsays i 7\n", runCase{"1", "says 7 leaves 4"})
	runText(t, mustRead(t, "fn f\nlent q i\nset q 4\nsays i 7\nfn bad\nsays i + 9999 1\n"), 0, runCase{"1", "says 7 leaves 4"})
	runText(t, mustRead(t, "fn f\nlent q i\nset q 4\nsays i 7\nfn bad\nsays i + 9999 1\n"), 1, runCase{"", "fails"})
}

// A program that is not in form, or not fine, is not run, also where the function that is asked for is.
func TestProgramsThatAreNotRun(t *testing.T) {
	list := []impl.Prog{{}, {Fns: []impl.Fn{{}}}, fns(says("f", nil, nil, numberType, num(10000))), fns(says("f", nil, nil, numberType, num(0)), impl.Fn{}), fns(again(6, says("f", nil, nil, numberType, num(0)))...), around(impl.Stmt{Kind: 7}), around(again(41, set(place("x"), num(1)))...)}
	for _, text := range []string{
		"fn f\nsays i @x\n", "fn f\nsays i 0\nfn f\nsays i 0\n", "fn f\nlet x 1\nlet x 2\nsays i 0\n", "fn f\ncall x g\nsays i 0\nfn g\nsays i 0\n",
		"fn f\nsays (i,i) 0\n", "fn f\nlet x 1\nset x , 1 2\nsays i 0\n", "fn f\nsays i + 1 , 1 2\n",
		"fn f\nlet x 1\nlend r x\nset x 2\nsays i @r\n", "fn f\nlet x , 1 2\npick r x.0 x 1\nsays i 0\n",
		"fn f\nsays i 0\nfn g\nhas n i\ngives i n\n", "fn f\nsays i 0\nfn g\nlet x 1\nlend r x\nset x 1\nset r 1\nsays i 0\n",
	} {
		list = append(list, mustRead(t, text))
	}
	for _, p := range list {
		for _, at := range []int{-1, 0, 1, 2} {
			for _, args := range []string{"", "1"} {
				for _, through := range []string{"", "1"} {
					runText(t, p, at, runCase{args + ">" + through, "bad"})
				}
			}
		}
	}
}

func TestFunctionsThatAreNotThere(t *testing.T) {
	p := mustRead(t, "fn f\nsays i 1\nfn g\nlent p i\ngives i p\nfn h\nsays i 3\n")
	for at, c := range []runCase{{"", "says 1 leaves"}, {"5 > 6", "says 5 leaves 6"}, {"", "says 3 leaves"}} {
		runText(t, p, at, c)
	}
	for _, at := range []int{math.MinInt, -2, -1, 3, 4, 5, 6, math.MaxInt} {
		for _, given := range []string{"", "5", "5 > 6", "> 6"} {
			runText(t, p, at, runCase{given, "bad"})
		}
	}
	// A program that is fine without any function has none to be run.
	mustCheck(t, impl.Prog{}, 0, 0)
	for _, at := range []int{math.MinInt, -1, 0, 1, math.MaxInt} {
		mustBad(t, "no function", impl.Prog{}, at, nil, nil)
		mustBad(t, "no function", impl.Prog{Fns: []impl.Fn{}}, at, []impl.Val{}, []impl.Val{})
	}
}

func TestArgumentsThatAreNotAskedFor(t *testing.T) {
	text := "fn f\nlent p (i,i)\nhas n i\nlent q ((i,i),i)\nhas m (i,i)\nsays i - @n 1\n"
	runLast(t, text, runCase{"(1,2) 3 ((4,5),6) (7,8)", "says 2 leaves (1,2) ((4,5),6)"}, runCase{"(1,2) 0 ((4,5),6) (7,8)", "fails"},
		runCase{"", "bad"}, runCase{"(1,2)", "bad"}, runCase{"(1,2) 3 ((4,5),6)", "bad"}, runCase{"3 ((4,5),6) (7,8)", "bad"}, runCase{"(1,2) 3 ((4,5),6) (7,8) 1", "bad"}, runCase{"(1,2) 3 ((4,5),6) (7,8) (7,8)", "bad"}, runCase{"0 (1,2) 3 ((4,5),6) (7,8)", "bad"}, runCase{"(1,2) 0 ((4,5),6)", "bad"},
		runCase{"1 3 ((4,5),6) (7,8)", "bad"}, runCase{"(1,2) (3,3) ((4,5),6) (7,8)", "bad"}, runCase{"(1,2) 3 (4,(5,6)) (7,8)", "bad"}, runCase{"(1,2) 3 (4,5) (7,8)", "bad"}, runCase{"(1,2) 3 ((4,5),(6,7)) (7,8)", "bad"}, runCase{"(1,2) 3 ((4,5),6) ((7,8),9)", "bad"}, runCase{"((1,2),3) 3 ((4,5),6) (7,8)", "bad"},
		runCase{"3 (1,2) ((4,5),6) (7,8)", "bad"}, runCase{"(1,2) 3 (7,8) ((4,5),6)", "bad"},
		runCase{"(1,2) -1 ((4,5),6) (7,8)", "bad"}, runCase{"(1,2) 10000 ((4,5),6) (7,8)", "bad"}, runCase{"(-1,2) 3 ((4,5),6) (7,8)", "bad"}, runCase{"(1,2) 3 ((4,10000),6) (7,8)", "bad"}, runCase{"(1,2) 3 ((4,5),6) (7,-8)", "bad"}, runCase{"(9999,0) 9999 ((0,9999),0) (9999,9999)", "says 9998 leaves (9999,0) ((0,9999),0)"})
	p := mustRead(t, text)
	good := valsFrom("(1,2) 3 ((4,5),6) (7,8)")
	for _, v := range oddVals() {
		for n := range good {
			args := slices.Clone(good)
			args[n] = v
			mustBad(t, "an argument of no type", p, 0, args, nil)
		}
	}
	runLast(t, "fn f\nsays i 1\n", runCase{"", "says 1 leaves"}, runCase{"0", "bad"}, runCase{"(0,0)", "bad"}, runCase{"0 0", "bad"})
	if got := ran(t, mustRead(t, "fn f\nsays i 1\n"), 0, []impl.Val{}, []impl.Val{}); outText(got) != "says 1 leaves" {
		t.Error("the empty list and the nil list are not the same:", got)
	}
}

// oddVals is values of no type, some of which hold themselves, or are far too deep.
func oddVals() []impl.Val {
	o := number(0)
	return []impl.Val{number(-1), number(10000), number(math.MinInt), number(math.MaxInt), {Kids: []impl.Val{o}}, {Kids: []impl.Val{o, o, o}}, {Num: 1, Kids: []impl.Val{o, o}}, {Num: -1, Kids: []impl.Val{o, o}}, pairVal(number(-1), o), pairVal(o, number(10000)), pairVal(o, impl.Val{Kids: []impl.Val{o}}), pairVal(pairVal(o, o), number(-1)), {Num: 1, Kids: []impl.Val{pairVal(o, o), o}}, deepVal(5), deepVal(100000), endlessVal(), pairVal(endlessVal(), o)}
}

func TestWhatMayBeWrittenThrough(t *testing.T) {
	runLast(t, "fn f\nlent p (i,i)\nsays (i,i) @p\n", runCase{"(1,2)", "says (1,2) leaves (1,2)"}, runCase{"(1,2) > 0", "bad"}, runCase{"(1,2) > (1,2)", "bad"}, runCase{"(1,2) > (1,2) (1,2)", "bad"}, runCase{"(1,2) > -1", "bad"})
	runLast(t, "fn f\nlent p (i,i)\ngives i p.0\n", runCase{"(1,2) > 3", "says 1 leaves (3,2)"}, runCase{"(1,2)", "bad"}, runCase{"(1,2) > 3 4", "bad"}, runCase{"(1,2) > 3 3", "bad"}, runCase{"(1,2) > (3,4)", "bad"}, runCase{"(1,2) > -1", "bad"}, runCase{"(1,2) > 10000", "bad"}, runCase{"(1,2) > 9999", "says 1 leaves (9999,2)"}, runCase{"1 > 3", "bad"}, runCase{"> 3", "bad"}, runCase{"(1,2) 3", "bad"})
	runLast(t, "fn f\nlent p (i,i)\ngives (i,i) p\n", runCase{"(1,2) > (3,4)", "says (1,2) leaves (3,4)"}, runCase{"(1,2)", "bad"}, runCase{"(1,2) > 3", "bad"}, runCase{"(1,2) > (3,4) (5,6)", "bad"}, runCase{"(1,2) > ((3,4),5)", "bad"}, runCase{"(1,2) > (3,(4,5))", "bad"}, runCase{"(1,2) > (3,10000)", "bad"})
	p := mustRead(t, "fn f\nlent p (i,i)\ngives (i,i) p\nfn g\nlent p (i,i)\ngives i p.0\nfn h\nlent p (i,i)\nsays i 0\n")
	for at := range p.Fns {
		for _, v := range oddVals() {
			mustBad(t, "through of no type", p, at, valsFrom("(1,2)"), []impl.Val{v})
			mustBad(t, "through of no type", p, at, valsFrom("(1,2)"), []impl.Val{v, v})
		}
	}
	// It is bad also where the run would fail.
	runLast(t, "fn f\nlent p i\nset p + @p 9999\ngives i p\n", runCase{"1 > 1", "fails"}, runCase{"1", "bad"}, runCase{"1 > (1,2)", "bad"})
}
