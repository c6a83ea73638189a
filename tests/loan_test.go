package tests

import (
	"testing"

	"loop.example/handfast/impl"
)

// All runs of these tests, as those of runs with places, are watched by ran: what is told must be what HeapRun tells, and false.

// A part of a parameter is lent, and then used by way of that, which does not end by it.
func TestWatchedNamesFromParameters(t *testing.T) {
	runLines(t, []lineCase{
		{"lend r q\nset r 9\nset q + @q 1\nlend s q\nset s + @s 1\nset q + @q 1\n", "", "says 0 leaves (1,2) 12"},
		{"lend r p.0\nset r 9\nset p.0 + @p.0 1\nset p.1 @p.0\n", "", "says 0 leaves (10,10) 3"},
		{"lend r p\nset r.0 9\nset r.1 8\nset r , @r.1 @r.0\nset p.0 + @p.0 1\n", "", "says 0 leaves (9,9) 3"},
		{"lend r m.1\nset r + @r @r\nset m.0 @m.1\nsays (i,i) @m\n", "", "says (12,12) leaves (1,2) 3"},
		{"lend r n\nset r 9\nset n + @n 1\nsays i @n\n", "", "says 10 leaves (1,2) 3"},
		{"lend r p.0\nset r 9\ngives (i,i) p\n", "(7,8)", "says (9,2) leaves (7,8) 3"},
		{"lend r p\nset r.0 9\nlend s r.1\ngives i s\n", "8", "says 2 leaves (9,8) 3"},
		{"lend r p\nset r.0 9\nlend s r.1\nset s 8\nlend u p.0\ngives i u\n", "7", "says 9 leaves (7,8) 3"},
	})
}

// What is set is said ahead of the use of the place, so that it may read what ends by that.
func TestWatchedReadsAheadOfASet(t *testing.T) {
	runLines(t, []lineCase{
		{"lend r q\nset q @r\n", "", "says 0 leaves (1,2) 3"}, {"lend r q\nset r 9\nset q + @r 1\n", "", "says 0 leaves (1,2) 10"}, {"lend r p\nset p , @r.1 @r.0\n", "", "says 0 leaves (2,1) 3"}, {"lend r p.0\nset p , @r @r\n", "", "says 0 leaves (1,1) 3"}, {"lend r p\nlend s r.0\nset r.0 + @s @s\nset p.1 @r.0\n", "", "says 0 leaves (2,2) 3"},
		{"lend r q\nset q + @r @q\n", "", "says 0 leaves (1,2) 6"}, {"lend r q\nset q + + @r @r + @q @q\n", "", "says 0 leaves (1,2) 12"}, {"lend r q\nsays i + @r @q\n", "", "says 6 leaves (1,2) 3"}, {"lend r p.0\nsays (i,i) , @r @p.0\n", "", "says (1,1) leaves (1,2) 3"},
		{"let x @p\nlend r x.1\nset x.1 + @r 5\nsays (i,i) @x\n", "", "says (1,7) leaves (1,2) 3"}, {"call x snd to p\nset p.1 + @x 5\n", "", "says 0 leaves (1,7) 3"}, {"pick r p.0 q 0\nset q + @r 5\n", "", "says 0 leaves (1,2) 8"},
		// Likewise of a choice, of what is picked by, and of an argument ahead of another one.
		{"lend r q\nif @r\nset q 9\nelse\nend\n", "", "says 0 leaves (1,2) 9"}, {"lend s p.0\npick r p.0 q @s\nset r 9\n", "", "says 0 leaves (9,2) 3"}, {"lend s q\npick r p.0 q - @s 3\nset r 9\n", "", "says 0 leaves (1,2) 9"}, {"pick r p.0 p.1 < @p.0 @p.1\nset r 9\nset p.0 @p.1\n", "", "says 0 leaves (2,2) 3"},
		{"lend r p.1\nset r 9\nset p.0 < @r @p.1\nset p.1 @p.0\n", "", "says 0 leaves (0,0) 3"},
	})
	runLast(t, "fn g\nhas n i\nlent a i\nset a + @a @n\nsays i @a\nfn f\nlent q i\nlend r q\ncall x g of @r to q\nset q + @q @x\nsays i @q\n", runCase{"3", "says 12 leaves 12"})
}

func TestWatchedNamesFromNamesOfTheirOwn(t *testing.T) {
	runLines(t, []lineCase{
		{"let x 1\nlend r x\nset r 9\nset x + @x 1\nsays i @x\n", "", "says 10 leaves (1,2) 3"},
		{"let x @p\nlend r x.0\nlend s x.1\nset r 8\nset s 9\nset x , @x.1 @x.0\nsays (i,i) @x\n", "", "says (9,8) leaves (1,2) 3"},
		{"let x @p\nlet y @p\nlend r x\nlend s y\nset x.0 9\nset s.0 8\nsays (i,i) , @x.0 @s.0\n", "", "says (9,8) leaves (1,2) 3"},
		{"let x , @p @p\nlend r x.0\nset x.1.0 9\nset r.1 8\nset x.1.1 7\nset r.0 6\nsays ((i,i),(i,i)) @x\n", "", "says ((6,8),(9,7)) leaves (1,2) 3"},
		{"lend r p\nlet x @r\nset r.0 9\nset x.0 8\nset p.1 @x.0\n", "", "says 0 leaves (9,8) 3"},
		{"call x inc to q\nlend r x\nset r 9\ncall y inc to x\nsays (i,i) , @y @q\n", "", "says (10,4) leaves (1,2) 4"},
		{"call x swap to p\nlend r x.0\nset p.0 9\nset r 8\nset p.1 7\nset x.1 @x.0\nsays (i,i) @x\n", "", "says (8,8) leaves (9,7) 3"},
		{"lend r q\ncall x inc to r\nset x 9\nset r + @r @x\nset q + @q 1\n", "", "says 0 leaves (1,2) 14"},
	})
	// A parameter that is not lent is a place of its own, also of a function that is called with what was lent.
	runLast(t, "fn g\nhas n (i,i)\nlend r n.0\nset r 9\nset n.1 8\nset r + @r 1\nsays (i,i) @n\nfn f\nlent p (i,i)\nlend r p.0\ncall x g of @p\nlend s p\ncall y g of , @s.1 @s.0\nset s.0 7\nset p.1 @y.0\nsays ((i,i),(i,i)) , @x @y\n", runCase{"(1,2)", "says ((10,8),(10,8)) leaves (7,10)"})
}

func TestWatchedNamesFromNamesThatAreLent(t *testing.T) {
	runLines(t, []lineCase{
		{"lend r p\nlend s r\nlend u s.0\nset u 9\nset s.0 + @s.0 1\nset r.0 + @r.0 1\nset p.0 + @p.0 1\n", "", "says 0 leaves (12,2) 3"},
		{"lend r p\nlend s r.0\nset r.1 9\nset s 8\nlend u r.1\nset u 7\nset s + @s @u\nset r.1 @r.0\n", "", "says 0 leaves (15,15) 3"},
		{"lend r p\nlend s r\nlend u r\nset u.0 9\nset r.1 8\n", "", "says 0 leaves (9,8) 3"},
		{"lend r p\nlend s r.0\nlend u r.1\nset s @u\nset u 9\nset r , @r.1 @r.0\n", "", "says 0 leaves (9,2) 3"},
		{"lend r p\nlend s r\nlend u s\nset u.0 9\nset s.1 8\nlend v s.0\nset v + @v 1\nset s.0 + @s.0 1\nset r , @r.1 @r.0\n", "", "says 0 leaves (8,11) 3"},
		{"lend r q\nlend s r\nlend u s\nset u 9\nset r + @r 1\nlend v r\nset v + @v 1\nset q + @q 1\n", "", "says 0 leaves (1,2) 12"},
		{"let x , @p @m\nlend r x\nlend s r.1\nlend u s.1\nset u 9\nset r.0.0 8\nset u + @u 1\nset s.0 7\nset r.1 , @r.1.1 @r.1.0\nsays ((i,i),(i,i)) @x\n", "", "says ((8,2),(10,7)) leaves (1,2) 3"},
		{"lend r p\nlend s r\nlend u s.1\ngives i u\n", "9", "says 2 leaves (1,9) 3"},
	})
}

// A name that stands for what a function gave out, and names that are lent from that; then what was lent to the call is used.
func TestWatchedNamesFromWhatWasGivenOut(t *testing.T) {
	runLines(t, []lineCase{
		{"call x snd to p\nset x 9\nset p.1 + @p.1 1\n", "", "says 0 leaves (1,10) 3"},
		{"call x snd to p\nlend r x\nset r 9\nlend s r\nset s + @s 1\nset x + @x 1\nset p.1 + @p.1 1\n", "", "says 0 leaves (1,12) 3"},
		{"call x snd to p\ncall y inc to x\nset x + @x @y\nset p.0 @p.1\n", "", "says 0 leaves (6,6) 3"},
		{"lend r p\ncall x snd to r\nset x 9\nset r.0 @x\nset r.1 + @r.1 1\nset p.0 + @p.0 1\n", "", "says 0 leaves (10,10) 3"},
		{"call x snd to m\ncall y one to x to q of @n\nset y 9\ncall z inc to y\nset y + @y @z\nset x + @x 1\nsays (i,i) @m\n", "", "says (5,21) leaves (1,2) 3"},
		{"call x snd to m\ncall y one to x to q of 0\nset y 9\ncall z inc to y\nset y + @y @z\nset x + @x 1\nsays (i,i) @m\n", "", "says (5,7) leaves (1,2) 20"},
		{"call x one to p.0 to p.1 of 1\nset x 9\ncall y one to p.0 to p.1 of 0\nset y 8\nset p , @p.1 @p.0\n", "", "says 0 leaves (8,9) 3"},
		{"call x one to p.0 to q of 1\ncall y one to p.1 to x of 0\nset y 9\nset x + @x 1\nset p.0 + @p.0 1\n", "", "says 0 leaves (11,2) 3"},
		{"let v , @p @p\ncall x snd to v.1\nset x 9\nset v.1.0 @v.1.1\nsays (i,i) @v.1\n", "", "says (9,9) leaves (1,2) 3"},
		{"call x snd to p\nlend r x\ncall y one to r to q of 1\nlend s y\nset s 9\nset y + @y 1\nset r + @r 1\nset x + @x 1\nset p , @p.1 @p.0\n", "", "says 0 leaves (12,1) 3"},
		{"call x snd to p\nlend r x\ngives i r\n", "9", "says 2 leaves (1,9) 3"}, {"lend s q\ncall x one to p.0 to s of 0\nset x 8\ncall y one to x to p.1 of 1\ngives i y\n", "9", "says 8 leaves (1,2) 9"},
	})
}

// By way of functions that lend on, and give out what was given out to them; what they lent inside is over then, and what was lent to them is not.
func TestWatchedPlacesByWayOfFunctions(t *testing.T) {
	text := "fn fst\nlent p (i,i)\nlend r p\nlend s r.0\nset s + @s 1\nset r.1 + @r.1 1\nlend u r\ngives i u.0\nfn in\nlent p ((i,i),i)\nlend r p.0\ncall x fst to r\nset x + @x 10\nlend y x\nset y + @y 10\nset r.1 + @r.1 @p.1\ncall z fst to r\ngives i z\n"
	runLast(t, text, runCase{"((1,2),3) > 9", "says 23 leaves ((9,7),3)"})
	use := "fn use\nlent p ((i,i),i)\nlend s p.1\ncall x in to p\nset x + @x 100\ncall y fst to p.0\nlend z p.1\nset y + @y @z\nset z @y\nset p.0.1 @p.1\nsays i @p.0.0\n"
	runLast(t, text+use, runCase{"((1,2),3)", "says 127 leaves ((127,127),127)"})
	runLast(t, text+"fn own\nhas n i\nlet v , , 1 2 @n\nlend r v\ncall x in to r\nlend y x\nset y + @y 1\nset x + @x 1\nset r.1 9\nset v.0.1 @v.0.0\nsays ((i,i),i) @v\n", runCase{"3", "says ((25,25),9) leaves"})
	// Two places are lent, and one is given out of either; the other one is used, lent, and lent again meanwhile.
	both := "fn both\nlent a (i,i)\nlent b (i,i)\nhas n i\nlend r a.0\npick c r b.1 @n\nset c + @c 10\ngives i c\nfn f\nlent p (i,i)\nlent q (i,i)\nhas n i\ncall x both to p to q of @n\nset x + @x 100\ncall y both to q to p of @n\nset y + @y 1000\nset p.0 + @p.0 1\nlend z q.1\nset z + @z @p.0\ngives i z\n"
	runLast(t, both, runCase{"(1,2) (3,4) 1 > 9", "says 116 leaves (112,2) (1013,9)"}, runCase{"(1,2) (3,4) 0 > 9", "says 116 leaves (2,1012) (3,9)"})
	// A place is lent to a function that calls another one with parts of it, twice.
	runLast(t, "fn two\nlent a i\nlent b i\nset a + @a @b\nset b + @b @a\nset a + @a 1\nsays i @b\nfn all\nlent p (i,i)\nlend r p.0\ncall x two to r to p.1\nset r + @r @x\ncall y two to p.1 to r\nset p.0 @r\nsays i + @x @y\nfn f\nlent p ((i,i),i)\nlend r p.0\ncall x all to r\nlend s p.1\nset r.0 + @r.0 @s\ncall y all to p.0\nset s + @x @y\nset p.0.0 @p.1\nsays i @p.1\n", runCase{"((1,2),3)", "says 336 leaves ((336,155),336)"})
}

// Either place is picked; the one that is not chosen is used then, and lent, and so is the other one.
func TestWatchedPicks(t *testing.T) {
	runLines(t, []lineCase{
		{"pick r p.0 q @n\nset r 9\nset q + @q 1\nlend s q\nset s + @s 1\nset p.0 + @p.0 1\n", "", "says 0 leaves (10,2) 5"}, {"pick r p.0 q 0\nset r 9\nset q + @q 1\nlend s q\nset s + @s 1\nset p.0 + @p.0 1\n", "", "says 0 leaves (2,2) 11"},
		{"lend s q\npick r p.0 s 1\nset r 9\nset s 8\nset q + @q 1\nset p.0 + @p.0 1\n", "", "says 0 leaves (10,2) 9"}, {"lend s q\npick r p.0 s 0\nset r 9\nset s 8\nset q + @q 1\nset p.0 + @p.0 1\n", "", "says 0 leaves (2,2) 9"},
		{"lend s p.0\npick r s q 1\nset r 9\nset s + @s 1\nset q 8\nset p.0 + @p.0 1\n", "", "says 0 leaves (11,2) 8"}, {"lend s p.0\npick r s q 0\nset r 9\nset s + @s 1\nset q 8\nset p.0 + @p.0 1\n", "", "says 0 leaves (3,2) 8"},
		{"pick r p.0 p.1 @n\nif @n\nset r 9\nelse\nset p.1 8\nend\nset p.1 + @p.1 1\n", "", "says 0 leaves (9,3) 3"}, {"pick r p.0 p.1 0\nif 0\nset p.0 9\nelse\nset r 8\nend\nset p.1 + @p.1 1\n", "", "says 0 leaves (1,9) 3"},
		{"pick r p.0 p.1 0\npick s r q 1\nset s 9\nset r + @r 1\nset p.1 + @p.1 1\nset q @p.1\n", "", "says 0 leaves (1,11) 11"}, {"pick r p.0 p.1 1\npick s q r 0\nlend u s\nset u 9\nset s + @s 1\nset r + @r 1\nset p.1 @p.0\n", "", "says 0 leaves (11,11) 3"},
		{"pick r p.0 p.1 1\nset r 9\nlend s p.1\nset s 8\nlend u p.0\nset u + @u @s\nset s @u\n", "", "says 0 leaves (17,17) 3"}, {"pick r p.0 p.1 0\nset r 9\nlend s p.1\nset s 8\nlend u p.0\nset u + @u @s\nset s @u\n", "", "says 0 leaves (9,9) 3"},
		{"pick r p m 1\nlend s r.0\nset r.1 9\nset s 8\nset m.0 7\nlend u m.1\nset u @p.0\nset p.1 @m.0\nsays (i,i) @m\n", "", "says (7,8) leaves (8,7) 3"}, {"pick r p m 0\nlend s r.0\nset r.1 9\nset s 8\nset m.0 7\nlend u m.1\nset u @p.0\nset p.1 @m.0\nsays (i,i) @m\n", "", "says (7,1) leaves (1,7) 3"},
		{"call x one to p.0 to q of 1\nset x 9\nset q 8\nlend s q\nset s + @s 1\nset p.0 + @p.0 1\n", "", "says 0 leaves (10,2) 9"}, {"call x one to p.0 to q of 0\nset x 9\nset q 8\nlend s q\nset s + @s 1\nset p.0 + @p.0 1\n", "", "says 0 leaves (2,2) 9"},
		{"call x one to p.0 to q of 1\nset x 9\nlend s p.0\nset q 8\nset s + @s @q\nset q @s\n", "", "says 0 leaves (17,2) 17"}, {"call x one to p.0 to q of 0\nset x 9\nlend s p.0\nset q 8\nset s + @s @q\nset q @s\n", "", "says 0 leaves (9,2) 9"},
		{"pick r p.0 q 1\nset r 9\npick s p.0 q 0\nset s 8\npick u q p.0 1\nset u + @u 1\ngives i p.0\n", "7", "says 9 leaves (7,2) 9"}, {"pick r p.0 q 1\ngives i r\n", "9", "says 1 leaves (9,2) 3"}, {"pick r p.0 q 0\ngives i r\n", "9", "says 3 leaves (1,2) 9"}, {"pick r p.0 q 0\ngives i p.0\n", "9", "says 1 leaves (9,2) 3"},
	})
	runLast(t, "fn f\nlent a i\nlent b i\nhas n i\npick c a b @n\nset c + @c 10\nlend d b\nset d + @d 1\nlend e a\nset e + @e @d\nset b + @b 1\ngives i b\n", runCase{"1 2 1 > 9", "says 4 leaves 14 9"}, runCase{"1 2 0 > 9", "says 14 leaves 14 9"})
}

// Two parts of one place are lent at once: to one call, to two names, to a name and a call; a use of either leaves the other one.
func TestWatchedPartsOfOnePlace(t *testing.T) {
	runLines(t, []lineCase{
		{"lend r p.0\nlend s p.1\nset r 9\nset s 8\nset r + @r @s\nset s + @s @r\nset p , @p.1 @p.0\n", "", "says 0 leaves (25,17) 3"},
		{"lend r p.0\nlend s p.1\ncall x one to r to s of 0\nset x 9\nset r 8\nset s + @s 1\nset p.0 @p.1\n", "", "says 0 leaves (10,10) 3"}, {"lend r p.0\nlend s p.1\ncall x one to s to r of 0\nset x 9\nset r + @r 1\nset s + @s 1\nset p.1 @p.0\n", "", "says 0 leaves (10,10) 3"},
		{"lend r p.0\ncall x one to p.1 to r of 1\nset x 9\nset r + @r 1\nset p.1 + @p.1 1\n", "", "says 0 leaves (2,10) 3"}, {"lend r p.0\ncall x one to p.1 to q of 0\nset r 9\nset x 8\nset r + @r @x\nset q @r\n", "", "says 0 leaves (17,2) 17"},
		{"call x one to p.0 to p.1 of 1\nset x 9\nset p.1 @p.0\n", "", "says 0 leaves (9,9) 3"}, {"call x one to m.1 to m.0 of 0\nset x 9\nsays (i,i) @m\n", "", "says (9,6) leaves (1,2) 3"}, {"lend r m\ncall x one to r.0 to r.1 of 0\nset x 9\nset r.0 @r.1\nset m.1 + @m.1 1\nsays (i,i) @m\n", "", "says (9,10) leaves (1,2) 3"},
		{"let x , @p @m\nlend r x.0.1\nlend s x.1\nlend u x.0.0\nset r 9\nset s.0 @r\nset u @s.1\nset r @u\nset s.1 @r\nset x.0 @x.1\nsays ((i,i),(i,i)) @x\n", "", "says ((9,6),(9,6)) leaves (1,2) 3"},
	})
	text := "fn two\nlent a i\nlent b i\nset a + @a 10\nset b + @b @a\nset a + @a @b\nsays i + @a @b\n"
	runLast(t, text+"fn f\nlent p (i,i)\ncall x two to p.0 to p.1\nset p , @p.1 @p.0\ncall y two to p.1 to p.0\nsays i + @x @y\n", runCase{"(1,2)", "says 165 leaves (47,81)"})
	runLast(t, text+"fn f\nlent p ((i,i),(i,i))\nlend r p.0\nlend s p.1\ncall x two to r.0 to s.1\ncall y two to s.0 to r.1\nset r.0 @s.0\nset s.1 @r.1\nset p , @p.1 @p.0\nsays i + @x @y\n", runCase{"((1,2),(3,4))", "says 84 leaves ((28,15),(28,15))"})
	runLast(t, "fn mix\nlent a (i,i)\nlent b i\nlend r a.0\nlend s a.1\nset r @b\nset s + @s @r\nset b @s\nset a.0 + @a.0 1\nsays i 0\nfn f\nlent p ((i,i),i)\nlend u p.0\ncall x mix to u to p.1\nset u.1 + @u.1 1\nset p.1 @p.0.1\nsays i 0\n", runCase{"((1,2),3)", "says 0 leaves ((4,6),6)"})
}

// A name is used behind a use of another part of the same place, which does not end it.
func TestWatchedUsesOfOtherParts(t *testing.T) {
	runLines(t, []lineCase{
		{"lend r p.0\nset p.1 9\nset r 8\nset p.1 + @p.1 @r\nset r + @r @p.1\n", "", "says 0 leaves (25,17) 3"}, {"lend r p.1\nset p.0 9\nset r + @r @p.0\nset p.0 @r\nset r 7\n", "", "says 0 leaves (11,7) 3"},
		{"lend r p.0\ncall x inc to p.1\nset r + @r @x\nlend s p.1\nset r + @r @s\nset s @r\n", "", "says 0 leaves (7,7) 3"}, {"lend r m.1\nset m.0 @r\nset r + @m.0 @r\nsays (i,i) @m\n", "", "says (6,12) leaves (1,2) 3"},
		{"lend r p.0\nset q @p.1\nset r @q\nset q 9\nset r + @r @q\n", "", "says 0 leaves (11,2) 9"}, {"lend r p\nlend s r.1\nset r.0 9\nset s + @s @r.0\n", "", "says 0 leaves (9,11) 3"}, {"lend r p\nlend s r.1\nlend u s\nset r.0 9\nset u @r.0\nset s + @s 1\nset r.0 + @r.0 @s\n", "", "says 0 leaves (19,10) 3"},
		{"lend r p.0\npick s p.1 q 1\nset r 9\nset s 8\nset r + @r 1\nset s @r\n", "", "says 0 leaves (10,10) 3"}, {"call x snd to p\nset q 9\nset m.0 8\nset x @q\n", "", "says 0 leaves (1,9) 9"}, {"lend r p.0\ngives i p.1\n", "9", "says 2 leaves (1,9) 3"},
	})
	runLast(t, "fn f\nlent p (((i,i),i),i)\nlend r p.0.0.1\nset p.1 10\nset r 11\nset p.0.1 12\nset r + @r 1\nset p.0.0.0 13\nset r + @r @p.0.0.0\nlend s p.0.0.0\nset r + @r @s\nset s @r\nset p.0.1 @s\nset p.1 @r\nsays i @r\n", runCase{"(((1,2),3),4)", "says 38 leaves (((38,38),38),38)"})
}

// A name ends on one way of a choice alone; on the other one it is used still, and behind it nobody uses it.
func TestWatchedChoices(t *testing.T) {
	runLines(t, []lineCase{
		{"lend r p.0\nif @n\nset p.0 9\nelse\nset r 8\nend\nset p.0 + @p.0 1\n", "", "says 0 leaves (10,2) 3"}, {"lend r p.0\nif 0\nset p.0 9\nelse\nset r 8\nend\nset p.0 + @p.0 1\n", "", "says 0 leaves (9,2) 3"},
		{"lend r p.0\nif @n\nset r 9\nelse\nset p.0 8\nend\nlend s p.0\nset s + @s 1\n", "", "says 0 leaves (10,2) 3"}, {"lend r p.0\nif 0\nset r 9\nelse\nset p.0 8\nend\nlend s p.0\nset s + @s 1\n", "", "says 0 leaves (9,2) 3"},
		{"lend r p.0\nlend s p.1\nif @n\nset p.0 9\nset s 8\nelse\nset p.1 7\nset r 6\nend\nset p , @p.1 @p.0\n", "", "says 0 leaves (8,9) 3"}, {"lend r p.0\nlend s p.1\nif 0\nset p.0 9\nset s 8\nelse\nset p.1 7\nset r 6\nend\nset p , @p.1 @p.0\n", "", "says 0 leaves (7,6) 3"},
		{"call x snd to p\nif @n\nset p.0 9\nelse\nset x 8\nend\nset p.1 + @p.1 1\n", "", "says 0 leaves (9,3) 3"}, {"call x snd to p\nif 0\nset p.0 9\nelse\nset x 8\nend\nset p.1 + @p.1 1\n", "", "says 0 leaves (1,9) 3"},
		{"lend r p\nlend s r.0\nif @n\nset r.0 9\nelse\nset s 8\nend\nset r.1 @r.0\n", "", "says 0 leaves (9,9) 3"}, {"lend r p\nlend s r.0\nif 0\nset r.0 9\nelse\nset s 8\nend\nset r.1 @r.0\n", "", "says 0 leaves (8,8) 3"},
		{"lend r p\nif @n\nlend s r.0\nset s 9\nelse\nlend u p.1\nset u 8\nend\nset p.0 + @p.0 1\n", "", "says 0 leaves (10,2) 3"}, {"lend r p\nif 0\nlend s r.0\nset s 9\nelse\nlend u p.1\nset u 8\nend\nset p.0 + @p.0 1\n", "", "says 0 leaves (2,8) 3"},
		{"lend r q\nif @n\nif 0\nset q 9\nelse\nset r 8\nend\nelse\nset r 7\nend\nset q + @q 1\n", "", "says 0 leaves (1,2) 9"}, {"lend r q\nif @n\nlend s r\nset s 9\nelse\nset r 8\nend\nset r + @r 1\nset q + @q 1\n", "", "says 0 leaves (1,2) 11"},
		{"lend r p.0\nif @n\nset p.1 9\nset r 8\nelse\nset p.0 7\nend\ngives (i,i) p\n", "(5,6)", "says (8,9) leaves (5,6) 3"}, {"lend r q\nif @n\ncall x inc to r\nset r + @r @x\nelse\ncall y inc to q\nset q + @q @y\nend\ngives i q\n", "9", "says 8 leaves (1,2) 9"}, {"lend r q\nif 0\ncall x inc to r\nset r + @r @x\nelse\ncall y inc to q\nset q + @q @y\nend\ngives i q\n", "9", "says 8 leaves (1,2) 9"},
	})
}

// Programs that would use what has ended are not run, also if they would not do so as they run: what CheckOf finds is told ahead of that.
func TestWhatHasEndedIsNotUsed(t *testing.T) {
	lateLines(t, []lateCase{
		{"lend r q\nset q 1\nset r 2\n", true}, {"lend r p.0\nset p , 8 9\nset r 2\n", true}, {"lend r p\nset p.1 9\nset r.1 2\n", true}, {"lend r p\nset p.1 9\nset r.0 2\n", true}, {"lend r q\nlet x @q\nset x @r\n", true}, {"lend r q\nlend s q\nset r 1\n", true}, {"let x 1\nlend r x\nset x 2\nset r 3\n", true}, {"let x @p\nlend r x.0\nset x @p\nset r 1\n", true}, {"lend r n\nset n 1\nset r 2\n", true},
		{"lend r q\nset q + @q @r\n", true}, {"lend r q\nsays i + @q @r\n", true}, {"lend r q\nset q 1\nsays i @r\n", true}, {"lend r q\nset q 1\ngives i r\n", true}, {"lend r q\nset q 1\nlend s r\n", true}, {"lend r q\nset q 1\nif @r\nelse\nend\n", true}, {"lend r q\nif @q\nset r 1\nelse\nend\n", true}, {"lend r q\nset q 1\npick s r p.0 1\n", true}, {"lend r q\nset q 1\npick s p.0 p.1 @r\n", true}, {"lend r q\nset q 1\ncall x inc to r\n", true},
		// Of what is lent from what ended nothing ends that is another part of the place.
		{"lend r p\nlend s r.0\nset p.0 9\nset s 1\n", true}, {"lend r p\nlend s r.0\nset p.1 9\nset s 1\n", false}, {"lend r p\nlend s r.0\nset p.1 9\nset r.0 1\n", true}, {"lend r p\nlend s r.0\nset r.0 9\nset s 1\n", true}, {"lend r p\nlend s r\nlend u s\nset r.0 9\nset u.0 8\n", true}, {"lend r p.0\nlend s r\ncall x swap to p\nset s 9\n", true}, {"lend s p.1\ncall x snd to p\nset s 9\n", true},
		// What was given out is a part of what was lent alone, and of one of two.
		{"call x snd to p\nset p.1 9\nset x 1\n", true}, {"call x snd to p\nset p.0 9\nset x 1\n", false}, {"call x snd to p\nset p , 8 9\nset x 1\n", true}, {"call x snd to p\nlend r x\nset x 9\nset r 1\n", true}, {"call x snd to p\nlend r x\nset p , 8 9\nset r 1\n", true}, {"lend r p\ncall x snd to r\nset p.1 9\nset x 1\n", true},
		{"call x one to p.0 to q of 1\nset q 9\nset x 1\n", false}, {"call x one to p.0 to q of 0\nset q 9\nset x 1\n", true}, {"call x one to p.0 to q of 0\nset p.0 9\nset x 1\n", false}, {"call x one to p.0 to q of 1\nset p.0 9\nset x 1\n", true},
		{"pick r p.0 q 1\nset p.0 9\nset r 1\n", true}, {"pick r p.0 q 1\nset q 9\nset r 1\n", false}, {"pick r p.0 q 0\nset q 9\nset r 1\n", true}, {"pick r p.0 q 0\nset p.0 9\nset r 1\n", false}, {"pick r q q 1\nset r 1\n", false}, {"pick r p.0 p.0 0\nset r 1\n", false}, {"lend s p.0\npick r p.0 s 1\nset r 9\n", false}, {"lend s p.0\npick r s p.0 1\nset r 9\nset p.0 1\nset s 8\n", true},
		// Arguments end by those behind them.
		{"call x one to p.0 to p.0 of 1\n", true}, {"call x one to p.0 to p.0 of 0\n", false}, {"call x one to p.0 to q of @p.0\n", true}, {"call x one to q to p.0 of - @p.0 1\n", true}, {"call x one to q to p.0 of @p.0\n", false}, {"lend r p.0\ncall x one to r to p.0 of 1\n", true}, {"lend r p.0\ncall x one to r to p.0 of 0\n", false}, {"lend r p.0\ncall x swap to p\nset r 9\n", true}, {"lend r p.0\ncall x inc to p.0\nset r 9\n", true},
		// On a way that is taken, or that is not.
		{"lend r q\nif @n\nset q 1\nelse\nend\nset r 2\n", true}, {"lend r q\nif 0\nset q 1\nelse\nend\nset r 2\n", false}, {"lend r q\nif @n\nelse\nset q 1\nend\nset r 2\n", false}, {"lend r q\nif 0\nelse\nset q 1\nend\nset r 2\n", true}, {"lend r q\nset q 1\nif 0\nset r 2\nelse\nend\n", false}, {"lend r q\nset q 1\nif @n\nset r 2\nelse\nend\n", true},
		// Nothing is used behind what fails.
		{"lend r q\nset q + 9999 @q\nset r 1\n", false}, {"lend r q\nset q 1\nset r + 9999 @r\n", true},
	})
	// In a function that is called, and behind a place that it gave out by way of others.
	out := "fn fst\nlent p (i,i)\nlend r p.0\ngives i r\nfn in\nlent p ((i,i),i)\ncall x fst to p.0\ngives i x\n"
	lateLast(t, out+"fn f\nlent p ((i,i),i)\ncall x in to p\nset p.0.0 1\nsays i @x\n", "((1,2),3)", true)
	lateLast(t, out+"fn f\nlent p ((i,i),i)\ncall x in to p\nset p.0.1 1\nsays i @x\n", "((1,2),3)", false)
	lateLast(t, out+"fn f\nlent p ((i,i),i)\nlend r p.0.0\ncall x in to p\nset x 1\nsays i @r\n", "((1,2),3)", true)
	lateLast(t, out+"fn f\nlent p ((i,i),i)\nlend r p\nlend s r.0.1\ncall x fst to r.0\nset x 1\nsays i @s\n", "((1,2),3)", true)
	lateLast(t, out+"fn f\nlent p ((i,i),i)\nlend r p.1\ncall x fst to p.0\nset x 1\nset r @x\nset p.1 @r\nsays i @r\n", "((1,2),3)", true)
}

// One function that is not fine is enough: no other one is run, ahead of it or behind.
func TestNoneIsWatchedThatIsNotFine(t *testing.T) {
	p := mustRead(t, "fn a\nlent q i\nset q + @q 1\nsays i @q\nfn b\nlent q i\nlend r q\nset q 1\nset r 2\nsays i 0\nfn c\nlent q i\ncall x a to q\nsays i @x\n")
	mustCheck(t, p, 4, 1)
	for at := -1; at <= 3; at++ {
		for _, args := range []string{"", "1", "1 2", "(1,2)"} {
			mustWatch(t, p, at, valsFrom(args), nil, impl.Out{Code: 9})
			mustWatch(t, p, at, valsFrom(args), valsFrom("1"), impl.Out{Code: 9})
		}
	}
	runLast(t, "fn a\nlent q i\nset q + @q 1\nsays i @q\nfn b\nlent q i\nlend r q\nset r 2\nset q 1\nsays i 0\nfn c\nlent q i\ncall x a to q\nsays i @x\n", runCase{"5", "says 6 leaves 6"})
}
