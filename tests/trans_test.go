package tests

import (
	"strings"
	"testing"

	"loop.example/handfast/impl"
)

// toldAhead is functions that are called, and what they are told as, read off the document by hand: two that say, of which one is lent two places with a number between, and two that give out a place, of one, and of two that are lent.
var toldAhead = toldCase{
	"fn inc\nlent a i\nhas n i\nset a + @a @n\nsays i @a\n" +
		"fn two\nhas n i\nlent a i\nlent b (i,i)\nlet x @a\nset a @b.0\nset b.0 + @x @n\nsays (i,i) @b\n" +
		"fn fst\nlent a (i,i)\ngives i a.0\n" +
		"fn one\nlent a i\nhas n i\nlent b i\npick r a b @n\ngives i r\n",
	"inc a n\n T1 = + a n\n a = T1\n T2 = a\n say T2; a\n" +
		"two n a b\n x = a\n T1 = at.0 b\n a = T1\n T2 = + x n\n b = put.0 b T2\n T3 = b\n say T3; a; b\n" +
		"fst a\n say at.0 a\n" +
		"fst_ a N\n a = put.0 a N\n say a\n" +
		"one a n b\n T1 = n\n if T1\n  say a\n else\n  say b\n for r\n say r\n" +
		"one_ a n b N\n T1 = n\n if T1\n  say a\n else\n  say b\n for r\n r = N\n if T1\n  a = r\n  say a; b\n else\n  b = r\n  say a; b\n for a b\n say a; b\n",
}

// toldHead is a function that is lent p and q, and not n and m; it says 0 at its end.
var toldHead = toldCase{"fn f\nlent p (i,i)\nlent q i\nhas n i\nhas m (i,i)\n", "f p q n m\n"}

// toldZero holds functions that say 0 against what they are told as.
func toldZero(t *testing.T, list []toldCase) {
	t.Helper()
	for n := range list {
		list[n].lines += "says i 0\n"
	}
	toldAll(t, toldAhead, toldHead, list)
}

func TestToldStatements(t *testing.T) {
	toldZero(t, []toldCase{
		{"", " T1 = 0\n say T1; p; q\n"},
		{"let x 5\n", " x = 5\n T1 = 0\n say T1; p; q\n"},
		{"let x , @p.0 + @n 1\n", " x = , at.0 p + n 1\n T1 = 0\n say T1; p; q\n"},
		{"let x < - @n 1 @m.1\nlet y , , @x @q @m\n", " x = < - n 1 at.1 m\n y = , , x q m\n T1 = 0\n say T1; p; q\n"},
		{"lend r p\n", " r = p\n T1 = 0\n p = r\n say T1; p; q\n"},
		{"lend r p.0\n", " r = at.0 p\n T1 = 0\n p = put.0 p r\n say T1; p; q\n"},
		{"lend r n\nset r 4\n", " r = n\n T1 = 4\n r = T1\n T2 = 0\n n = r\n say T2; p; q\n"},
		{"set p.1 4\n", " T1 = 4\n p = put.1 p T1\n T2 = 0\n say T2; p; q\n"},
		{"set q @n\nset q + @q @p.1\n", " T1 = n\n q = T1\n T2 = + q at.1 p\n q = T2\n T3 = 0\n say T3; p; q\n"},
		{"set p , @p.1 @p.0\n", " T1 = , at.1 p at.0 p\n p = T1\n T2 = 0\n say T2; p; q\n"},
		{"let x , @m @p\nset x.1.0 3\nlend r x.0.1\n", " x = , m p\n T1 = 3\n x = put.1.0 x T1\n r = at.0.1 x\n T2 = 0\n x = put.0.1 x r\n say T2; p; q\n"},
	})
}

func TestToldPicks(t *testing.T) {
	toldZero(t, []toldCase{
		// Two parts of one name, and a part of itself.
		{"pick r p.0 p.1 @n\n", " T1 = n\n if T1\n  say at.0 p\n else\n  say at.1 p\n for r\n T2 = 0\n if T1\n  p = put.0 p r\n  say p\n else\n  p = put.1 p r\n  say p\n for p\n say T2; p; q\n"},
		{"pick r p m 1\nset r.1 7\n", " T1 = 1\n if T1\n  say p\n else\n  say m\n for r\n T2 = 7\n r = put.1 r T2\n T3 = 0\n if T1\n  p = r\n  say p; m\n else\n  m = r\n  say p; m\n for p m\n say T3; p; q\n"},
		// Two names, that of Place first.
		{"pick r q p.0 < @n 3\nset r 5\n", " T1 = < n 3\n if T1\n  say q\n else\n  say at.0 p\n for r\n T2 = 5\n r = T2\n T3 = 0\n if T1\n  q = r\n  say q; p\n else\n  p = put.0 p r\n  say q; p\n for q p\n say T3; p; q\n"},
		// Places that are themselves lent; what was picked comes back ahead of them.
		{"lend r p.0\npick s r q @p.1\n", " r = at.0 p\n T1 = at.1 p\n if T1\n  say r\n else\n  say q\n for s\n T2 = 0\n if T1\n  r = s\n  say r; q\n else\n  q = s\n  say r; q\n for r q\n p = put.0 p r\n say T2; p; q\n"},
		{"pick r p.0 p.1 @n\npick s q r @r\n", " T1 = n\n if T1\n  say at.0 p\n else\n  say at.1 p\n for r\n T2 = r\n if T2\n  say q\n else\n  say r\n for s\n T3 = 0\n if T2\n  q = s\n  say q; r\n else\n  r = s\n  say q; r\n for q r\n if T1\n  p = put.0 p r\n  say p\n else\n  p = put.1 p r\n  say p\n for p\n say T3; p; q\n"},
		{"lend r p\npick s r.0 r.1 @n\nset s 6\nset p.1 2\n", " r = p\n T1 = n\n if T1\n  say at.0 r\n else\n  say at.1 r\n for s\n T2 = 6\n s = T2\n T3 = 2\n if T1\n  r = put.0 r s\n  say r\n else\n  r = put.1 r s\n  say r\n for r\n p = r\n p = put.1 p T3\n T4 = 0\n say T4; p; q\n"},
		// The condition, Place and Other each end something; the temporary name is taken ahead of that.
		{"lend r p.0\npick s p.1 q @p.0\n", " r = at.0 p\n p = put.0 p r\n T1 = at.0 p\n if T1\n  say at.1 p\n else\n  say q\n for s\n T2 = 0\n if T1\n  p = put.1 p s\n  say p; q\n else\n  q = s\n  say p; q\n for p q\n say T2; p; q\n"},
		{"call r fst to p\npick s p.1 q @p.0\n", " T1 = p\n let r = fst T1\n let T3 = fst_ T1; r\n p = T3\n T2 = at.0 p\n if T2\n  say at.1 p\n else\n  say q\n for s\n T4 = 0\n if T2\n  p = put.1 p s\n  say p; q\n else\n  q = s\n  say p; q\n for p q\n say T4; p; q\n"},
		{"lend r p.0\nlend s q\npick t p.0 q 1\n", " r = at.0 p\n s = q\n T1 = 1\n p = put.0 p r\n q = s\n if T1\n  say at.0 p\n else\n  say q\n for t\n T2 = 0\n if T1\n  p = put.0 p t\n  say p; q\n else\n  q = t\n  say p; q\n for p q\n say T2; p; q\n"},
		{"lend r p.0\nlend s q\npick t q p.0 1\n", " r = at.0 p\n s = q\n T1 = 1\n q = s\n p = put.0 p r\n if T1\n  say q\n else\n  say at.0 p\n for t\n T2 = 0\n if T1\n  q = t\n  say q; p\n else\n  p = put.0 p t\n  say q; p\n for q p\n say T2; p; q\n"},
	})
}

func TestToldReadsThatEnd(t *testing.T) {
	toldZero(t, []toldCase{
		{"lend r p.0\nlet x @p.1\n", " r = at.0 p\n x = at.1 p\n T1 = 0\n p = put.0 p r\n say T1; p; q\n"},
		{"lend r p.0\nlet x @p\n", " r = at.0 p\n p = put.0 p r\n x = p\n T1 = 0\n say T1; p; q\n"},
		{"lend r p.0\nset r 8\nlet x + @p.0 1\n", " r = at.0 p\n T1 = 8\n r = T1\n p = put.0 p r\n x = + at.0 p 1\n T2 = 0\n say T2; p; q\n"},
		{"lend r p.0\nlet x + 1 @p.0\n", " r = at.0 p\n p = put.0 p r\n x = + 1 at.0 p\n T1 = 0\n say T1; p; q\n"},
		// Also behind a read of what it ends.
		{"lend r p.0\nset r 8\nlet x , @r @p.0\n", " r = at.0 p\n T1 = 8\n r = T1\n p = put.0 p r\n x = , r at.0 p\n T2 = 0\n say T2; p; q\n"},
		// Kids end in order, whatever was given last.
		{"lend r p.0\nlend s q\nlet x , @q @p.0\n", " r = at.0 p\n s = q\n q = s\n p = put.0 p r\n x = , q at.0 p\n T1 = 0\n say T1; p; q\n"},
		{"lend r p.0\nlend s q\nlet x , @p.0 @q\n", " r = at.0 p\n s = q\n p = put.0 p r\n q = s\n x = , at.0 p q\n T1 = 0\n say T1; p; q\n"},
		{"lend r p.0\nlend s p.1\nlet x , , @n @p.1 < @q @p.0\n", " r = at.0 p\n s = at.1 p\n p = put.1 p s\n p = put.0 p r\n x = , , n at.1 p < q at.0 p\n T1 = 0\n say T1; p; q\n"},
		// The first read ends all that the second one would.
		{"lend r p.0\nlend s p.1\nlet x - @p.0 @p.1\n", " r = at.0 p\n s = at.1 p\n p = put.0 p r\n p = put.1 p s\n x = - at.0 p at.1 p\n T1 = 0\n say T1; p; q\n"},
		{"lend r p.0\nlend s p.1\nlet x @p\n", " r = at.0 p\n s = at.1 p\n p = put.1 p s\n p = put.0 p r\n x = p\n T1 = 0\n say T1; p; q\n"},
		{"lend r p\nlet x , @p.0 @p.1\n", " r = p\n p = r\n x = , at.0 p at.1 p\n T1 = 0\n say T1; p; q\n"},
	})
	// What a function says is such an expression.
	toldAll(t, toldAhead, toldHead, []toldCase{
		{"lend r p.0\nlend s q\nset r 5\nsays i @p.0\n", " r = at.0 p\n s = q\n T1 = 5\n r = T1\n p = put.0 p r\n T2 = at.0 p\n q = s\n say T2; p; q\n"},
		{"call r fst to p\nlend s q\nsays (i,i) , @r @p.0\n", " T1 = p\n let r = fst T1\n s = q\n let T3 = fst_ T1; r\n p = T3\n T2 = , r at.0 p\n q = s\n say T2; p; q\n"},
		{"lend r p\nlend s r.1\nlend t m.0\nsays i - @t @r.0\n", " r = p\n s = at.1 r\n t = at.0 m\n T1 = - t at.0 r\n m = put.0 m t\n r = put.1 r s\n p = r\n say T1; p; q\n"},
	})
}

func TestToldSetsThatEnd(t *testing.T) {
	toldZero(t, []toldCase{
		// By the expression, by the place, and by both; the expression is bound between them.
		{"lend r p.0\nset q @p.0\n", " r = at.0 p\n p = put.0 p r\n T1 = at.0 p\n q = T1\n T2 = 0\n say T2; p; q\n"},
		{"lend r p.0\nset p.0 5\n", " r = at.0 p\n T1 = 5\n p = put.0 p r\n p = put.0 p T1\n T2 = 0\n say T2; p; q\n"},
		{"lend r p.0\nset p.0 @r\n", " r = at.0 p\n T1 = r\n p = put.0 p r\n p = put.0 p T1\n T2 = 0\n say T2; p; q\n"},
		{"lend r p.0\nlend s p.1\nset p.1 + @s @p.0\n", " r = at.0 p\n s = at.1 p\n p = put.0 p r\n T1 = + s at.0 p\n p = put.1 p s\n p = put.1 p T1\n T2 = 0\n say T2; p; q\n"},
		{"lend r p.0\nlend s p.1\nset p , @s @r\n", " r = at.0 p\n s = at.1 p\n T1 = , s r\n p = put.1 p s\n p = put.0 p r\n p = T1\n T2 = 0\n say T2; p; q\n"},
		// The temporary name is taken ahead of those of what comes back.
		{"call r fst to p\nset q @p.1\n", " T1 = p\n let r = fst T1\n let T3 = fst_ T1; r\n p = T3\n T2 = at.1 p\n q = T2\n T4 = 0\n say T4; p; q\n"},
		{"call r fst to p\nset p.1 @r\n", " T1 = p\n let r = fst T1\n T2 = r\n let T3 = fst_ T1; r\n p = T3\n p = put.1 p T2\n T4 = 0\n say T4; p; q\n"},
		{"call r fst to p\ncall s fst to m\nset p.1 @m.1\n", " T1 = p\n let r = fst T1\n T2 = m\n let s = fst T2\n let T4 = fst_ T2; s\n m = T4\n T3 = at.1 m\n let T5 = fst_ T1; r\n p = T5\n p = put.1 p T3\n T6 = 0\n say T6; p; q\n"},
		// What does not meet is left.
		{"lend r p.0\nset p.1 3\nset r 4\n", " r = at.0 p\n T1 = 3\n p = put.1 p T1\n T2 = 4\n r = T2\n T3 = 0\n p = put.0 p r\n say T3; p; q\n"},
	})
}

func TestToldLendsOfLends(t *testing.T) {
	lends := "lend r p\nlend s r.0\nlend t s\n"
	told := " r = p\n s = at.0 r\n t = s\n"
	toldZero(t, []toldCase{
		// The first is used: the inner ones come back first.
		{lends + "set t 9\nset p.0 5\n", told + " T1 = 9\n t = T1\n T2 = 5\n s = t\n r = put.0 r s\n p = r\n p = put.0 p T2\n T3 = 0\n say T3; p; q\n"},
		{lends + "set r.0 5\n", told + " T1 = 5\n s = t\n r = put.0 r s\n r = put.0 r T1\n T2 = 0\n p = r\n say T2; p; q\n"},
		{lends + "set s 5\n", told + " T1 = 5\n s = t\n s = T1\n T2 = 0\n r = put.0 r s\n p = r\n say T2; p; q\n"},
		{lends + "set t 5\n", told + " T1 = 5\n t = T1\n T2 = 0\n s = t\n r = put.0 r s\n p = r\n say T2; p; q\n"},
		{lends + "set r.1 5\n", told + " T1 = 5\n r = put.1 r T1\n T2 = 0\n s = t\n r = put.0 r s\n p = r\n say T2; p; q\n"},
		{lends + "lend u p\nset u.0 6\n", told + " s = t\n r = put.0 r s\n p = r\n u = p\n T1 = 6\n u = put.0 u T1\n T2 = 0\n p = u\n say T2; p; q\n"},
		// By StmtLend as by any other use, also of parts of what is lent.
		{"lend r p\nlend s r.0\nlend t r.1\nlend u r.0\n", " r = p\n s = at.0 r\n t = at.1 r\n r = put.0 r s\n u = at.0 r\n T1 = 0\n r = put.0 r u\n r = put.1 r t\n p = r\n say T1; p; q\n"},
	})
}

func TestToldCallsThatGiveOutNoPlace(t *testing.T) {
	ahead := toldCase{"fn zero\nsays i 7\nfn sum\nhas a i\nhas b i\nsays i + @a @b\n" + toldAhead.lines[:strings.Index(toldAhead.lines, "fn fst")], "zero\n T1 = 7\n say T1\nsum a b\n T1 = + a b\n say T1\n" + toldAhead.want[:strings.Index(toldAhead.want, "fst a")]}
	list := []toldCase{
		// None, one and several places that are lent, and arguments of both kinds mixed.
		{"call x zero\n", " let x = zero\n T1 = 0\n say T1; p; q\n"},
		{"call x sum of @p.0 of + 1 @n\n", " T1 = at.0 p\n T2 = + 1 n\n let x = sum T1; T2\n T3 = 0\n say T3; p; q\n"},
		{"call x inc to q of 3\n", " T1 = q\n T2 = 3\n let x T3 = inc T1; T2\n q = T3\n T4 = 0\n say T4; p; q\n"},
		{"call x inc to p.1 of @q\nset x 3\n", " T1 = at.1 p\n T2 = q\n let x T3 = inc T1; T2\n p = put.1 p T3\n T4 = 3\n x = T4\n T5 = 0\n say T5; p; q\n"},
		{"call x two of @n to q to p\n", " T1 = n\n T2 = q\n T3 = p\n let x T4 T5 = two T1; T2; T3\n q = T4\n p = T5\n T6 = 0\n say T6; p; q\n"},
		{"let v , @m 1\ncall x two of + @q @p.0 to p.0 to v.0\n", " v = , m 1\n T1 = + q at.0 p\n T2 = at.0 p\n T3 = at.0 v\n let x T4 T5 = two T1; T2; T3\n p = put.0 p T4\n v = put.0 v T5\n T6 = 0\n say T6; p; q\n"},
		// Two parts of one name are put there one behind the other.
		{"let v , @m 1\ncall x two of 2 to v.1 to v.0\n", " v = , m 1\n T1 = 2\n T2 = at.1 v\n T3 = at.0 v\n let x T4 T5 = two T1; T2; T3\n v = put.1 v T4\n v = put.0 v T5\n T6 = 0\n say T6; p; q\n"},
		// What is lent to it is lent itself.
		{"lend r p.0\ncall x inc to r of @p.1\n", " r = at.0 p\n T1 = r\n T2 = at.1 p\n let x T3 = inc T1; T2\n r = T3\n T4 = 0\n p = put.0 p r\n say T4; p; q\n"},
		// Arguments end what they use, each ahead of its temporary name.
		{"lend r p.0\ncall x inc to p.0 of @n\n", " r = at.0 p\n p = put.0 p r\n T1 = at.0 p\n T2 = n\n let x T3 = inc T1; T2\n p = put.0 p T3\n T4 = 0\n say T4; p; q\n"},
		{"lend r p.0\ncall x inc to q of @p.0\n", " r = at.0 p\n T1 = q\n p = put.0 p r\n T2 = at.0 p\n let x T3 = inc T1; T2\n q = T3\n T4 = 0\n say T4; p; q\n"},
	}
	for n := range list {
		list[n].lines += "says i 0\n"
	}
	toldAll(t, ahead, toldHead, list)
	toldZero(t, []toldCase{
		{"call r fst to m\ncall x inc to q of @m.0\n", " T1 = m\n let r = fst T1\n T2 = q\n let T3 = fst_ T1; r\n m = T3\n T4 = at.0 m\n let x T5 = inc T2; T4\n q = T5\n T6 = 0\n say T6; p; q\n"},
	})
}

func TestToldCallsThatGiveOutAPlace(t *testing.T) {
	toldZero(t, []toldCase{
		{"call r fst to p\n", " T1 = p\n let r = fst T1\n T2 = 0\n let T3 = fst_ T1; r\n p = T3\n say T2; p; q\n"},
		{"call r one to p.0 of @n to q\n", " T1 = at.0 p\n T2 = n\n T3 = q\n let r = one T1; T2; T3\n T4 = 0\n let T5 T6 = one_ T1; T2; T3; r\n p = put.0 p T5\n q = T6\n say T4; p; q\n"},
		{"call r one to p.0 of @n to p.1\nset r 3\n", " T1 = at.0 p\n T2 = n\n T3 = at.1 p\n let r = one T1; T2; T3\n T4 = 3\n r = T4\n T5 = 0\n let T6 T7 = one_ T1; T2; T3; r\n p = put.0 p T6\n p = put.1 p T7\n say T5; p; q\n"},
		// Its name is written through, lent on, and used up.
		{"call r one to p.0 of @n to q\nset r 5\nlend s r\nset s 6\nset r 7\nset q 8\n", " T1 = at.0 p\n T2 = n\n T3 = q\n let r = one T1; T2; T3\n T4 = 5\n r = T4\n s = r\n T5 = 6\n s = T5\n T6 = 7\n r = s\n r = T6\n T7 = 8\n let T8 T9 = one_ T1; T2; T3; r\n p = put.0 p T8\n q = T9\n q = T7\n T10 = 0\n say T10; p; q\n"},
		{"call r one to p.0 of @n to q\nlend s r\nset p.0 8\n", " T1 = at.0 p\n T2 = n\n T3 = q\n let r = one T1; T2; T3\n s = r\n T4 = 8\n r = s\n let T5 T6 = one_ T1; T2; T3; r\n p = put.0 p T5\n q = T6\n p = put.0 p T4\n T7 = 0\n say T7; p; q\n"},
		// What is lent to it was given out itself.
		{"call r fst to p\ncall s one to q of 1 to r\nset s 2\n", " T1 = p\n let r = fst T1\n T2 = q\n T3 = 1\n T4 = r\n let s = one T2; T3; T4\n T5 = 2\n s = T5\n T6 = 0\n let T7 T8 = one_ T2; T3; T4; s\n q = T7\n r = T8\n let T9 = fst_ T1; r\n p = T9\n say T6; p; q\n"},
		{"call r fst to p\nset r 4\ncall s fst to p\nset s + @s 1\n", " T1 = p\n let r = fst T1\n T2 = 4\n r = T2\n let T3 = fst_ T1; r\n p = T3\n T4 = p\n let s = fst T4\n T5 = + s 1\n s = T5\n T6 = 0\n let T7 = fst_ T4; s\n p = T7\n say T6; p; q\n"},
		// Through it another one is called; what that is given is read ahead, as it would end what is lent.
		{"call r fst to p\nlet y @r\ncall x inc to r of @y\nset p.1 @x\n", " T1 = p\n let r = fst T1\n y = r\n T2 = r\n T3 = y\n let x T4 = inc T2; T3\n r = T4\n T5 = x\n let T6 = fst_ T1; r\n p = T6\n p = put.1 p T5\n T7 = 0\n say T7; p; q\n"},
	})
}

func TestToldFunctionsThatGiveOutAPlace(t *testing.T) {
	g := toldCase{"fn g\nlent p (i,i)\nhas k i\nlent q i\n", ""}
	toldAll(t, toldAhead, g, []toldCase{
		// Without a path, with one, and with what ends by that.
		{"gives (i,i) p\n", "g p k q\n say p\ng_ p k q N\n p = N\n say p; q\n"},
		{"gives i p.1\n", "g p k q\n say at.1 p\ng_ p k q N\n p = put.1 p N\n say p; q\n"},
		{"lend r p.1\nset r @k\ngives i p.1\n", "g p k q\n r = at.1 p\n T1 = k\n r = T1\n p = put.1 p r\n say at.1 p\ng_ p k q N\n r = at.1 p\n T1 = k\n r = T1\n p = put.1 p r\n p = put.1 p N\n say p; q\n"},
		// Lent from a parameter, while another one is lent, too; that comes back alone where the place is written through.
		{"lend r p.1\nlend s q\nset s @k\ngives i r\n", "g p k q\n r = at.1 p\n s = q\n T1 = k\n s = T1\n say r\ng_ p k q N\n r = at.1 p\n s = q\n T1 = k\n s = T1\n r = N\n q = s\n p = put.1 p r\n say p; q\n"},
		{"lend r p\nlend s r.0\nset s 3\ngives i r.1\n", "g p k q\n r = p\n s = at.0 r\n T1 = 3\n s = T1\n say at.1 r\ng_ p k q N\n r = p\n s = at.0 r\n T1 = 3\n s = T1\n r = put.1 r N\n r = put.0 r s\n p = r\n say p; q\n"},
		// Picked.
		{"pick r p.0 q @k\nset r 3\ngives i r\n", "g p k q\n T1 = k\n if T1\n  say at.0 p\n else\n  say q\n for r\n T2 = 3\n r = T2\n say r\ng_ p k q N\n T1 = k\n if T1\n  say at.0 p\n else\n  say q\n for r\n T2 = 3\n r = T2\n r = N\n if T1\n  p = put.0 p r\n  say p; q\n else\n  q = r\n  say p; q\n for p q\n say p; q\n"},
		// Given out by a call.
		{"call r fst to p\ngives i r\n", "g p k q\n T1 = p\n let r = fst T1\n say r\ng_ p k q N\n T1 = p\n let r = fst T1\n r = N\n let T2 = fst_ T1; r\n p = T2\n say p; q\n"},
		{"let v , 1 @k\ncall s fst to v\ncall r one to q of @s to p.1\ngives i r\n", "g p k q\n v = , 1 k\n T1 = v\n let s = fst T1\n T2 = q\n T3 = s\n T4 = at.1 p\n let r = one T2; T3; T4\n say r\ng_ p k q N\n v = , 1 k\n T1 = v\n let s = fst T1\n T2 = q\n T3 = s\n T4 = at.1 p\n let r = one T2; T3; T4\n r = N\n let T5 T6 = one_ T2; T3; T4; r\n q = T5\n p = put.1 p T6\n let T7 = fst_ T1; s\n v = T7\n say p; q\n"},
		// What is given out ends by a use of its own place, which another one is lent from.
		{"call r fst to p\nset r 6\ngives (i,i) p\n", "g p k q\n T1 = p\n let r = fst T1\n T2 = 6\n r = T2\n let T3 = fst_ T1; r\n p = T3\n say p\ng_ p k q N\n T1 = p\n let r = fst T1\n T2 = 6\n r = T2\n let T3 = fst_ T1; r\n p = T3\n p = N\n say p; q\n"},
	})
}

func TestToldParameters(t *testing.T) {
	none := toldCase{}
	toldAll(t, none, none, []toldCase{
		{"", ""},
		{"fn f\nsays i 3\n", "f\n T1 = 3\n say T1\n"},
		{"fn f\nhas n i\nhas m (i,i)\nlend r m.1\nset r @n\nsays (i,i) , @n @r\n", "f n m\n r = at.1 m\n T1 = n\n r = T1\n T2 = , n r\n m = put.1 m r\n say T2\n"},
		{"fn f\nlent p i\nsays i @p\n", "f p\n T1 = p\n say T1; p\n"},
		{"fn f\nlent p i\nhas n i\nlent q (i,i)\nhas m i\nsays (i,i) @q\n", "f p n q m\n T1 = q\n say T1; p; q\n"},
		{"fn f\nlent d i\nlent c i\nlent b i\nlent a i\nsays i 1\n", "f d c b a\n T1 = 1\n say T1; d; c; b; a\n"},
		{"fn f\nlent d i\nhas c i\nlent b i\nlent a i\ngives i b\n", "f d c b a\n say b\nf_ d c b a N\n b = N\n say d; b; a\n"},
		// Names are as long as may be, and as words of texts are.
		{"fn abcdef\nlent put (((i,i),(i,i)),i)\nlend at put.0.1.0\nset at 3\ngives i put.0.1.0\nfn let\nlent if (((i,i),(i,i)),i)\ncall say abcdef to if\nset say 4\nsays i @if.0.1.0\n", "abcdef put\n at = at.0.1.0 put\n T1 = 3\n at = T1\n put = put.0.1.0 put at\n say at.0.1.0 put\nabcdef_ put N\n at = at.0.1.0 put\n T1 = 3\n at = T1\n put = put.0.1.0 put at\n put = put.0.1.0 put N\n say put\nlet if\n T1 = if\n let say = abcdef T1\n T2 = 4\n say = T2\n let T4 = abcdef_ T1; say\n if = T4\n T3 = at.0.1.0 if\n say T3; if\n"},
	})
}

// The order of what comes back is that of LendEnds, whatever the names are.
func TestToldInTheOrderOfLendEnds(t *testing.T) {
	text := "fn f\nlent p ((i,i),(i,i))\nlend z p.0\nlend a p.1\nlend y z.1\nlend b a.0\nset p , , 1 2 , 3 4\nsays i 0\n"
	p := mustRead(t, text)
	ends := impl.LendEnds(p, 0, 4, place("p"))
	if got := strings.Join(ends, " "); got != "b y a z" {
		t.Fatal(got)
	}
	want := "f p\n z = at.0 p\n a = at.1 p\n y = at.1 z\n b = at.0 a\n T1 = , , 1 2 , 3 4\n a = put.0 a b\n z = put.1 z y\n p = put.1 p a\n p = put.0 p z\n p = T1\n T2 = 0\n say T2; p\n"
	if got := toldText(t, text); got != want {
		t.Errorf("told as\n%sit should be\n%s", got, want)
	}
}

// toldWays holds functions with choices in which p, q, n and m are left, and what is written `LEFT`, against what they are told as.
func toldWays(t *testing.T, list []toldCase) {
	t.Helper()
	for n := range list {
		list[n].want = strings.NewReplacer("say LEFT", "say p; q; n; m", "for LEFT", "for p q n m").Replace(list[n].want)
	}
	toldZero(t, list)
}

func TestToldChoices(t *testing.T) {
	toldWays(t, []toldCase{
		// Empty lists.
		{"if 1\nelse\nend\n", " if 1\n  say LEFT\n else\n  say LEFT\n for LEFT\n T1 = 0\n say T1; p; q\n"},
		{"if @n\nset q 1\nelse\nend\n", " if n\n  T1 = 1\n  q = T1\n  say LEFT\n else\n  say LEFT\n for LEFT\n T2 = 0\n say T2; p; q\n"},
		{"if @n\nelse\nset q 1\nend\n", " if n\n  say LEFT\n else\n  T1 = 1\n  q = T1\n  say LEFT\n for LEFT\n T2 = 0\n say T2; p; q\n"},
		// Temporary names are taken in Then, then in Else, then behind.
		{"set p.0 7\nif < @n @q\nset q 1\nelse\nset q 2\nset n 3\nend\nset m.1 4\n", " T1 = 7\n p = put.0 p T1\n if < n q\n  T2 = 1\n  q = T2\n  say LEFT\n else\n  T3 = 2\n  q = T3\n  T4 = 3\n  n = T4\n  say LEFT\n for LEFT\n T5 = 4\n m = put.1 m T5\n T6 = 0\n say T6; p; q\n"},
		// What stands for a place of its own is left, but for what was given in it.
		{"let x 1\nif @x\nset x 2\nlet y 3\nelse\ncall z inc to x of 4\nend\n", " x = 1\n if x\n  T1 = 2\n  x = T1\n  y = 3\n  say LEFT; x\n else\n  T2 = x\n  T3 = 4\n  let z T4 = inc T2; T3\n  x = T4\n  say LEFT; x\n for LEFT x\n T5 = 0\n say T5; p; q\n"},
		// The expression ends something, which is not left.
		{"lend r p.0\nif @p.0\nelse\nend\n", " r = at.0 p\n p = put.0 p r\n if at.0 p\n  say LEFT\n else\n  say LEFT\n for LEFT\n T1 = 0\n say T1; p; q\n"},
		{"call r fst to p\nif + @r @p.1\nset q 1\nelse\nend\n", " T1 = p\n let r = fst T1\n let T2 = fst_ T1; r\n p = T2\n if + r at.1 p\n  T3 = 1\n  q = T3\n  say LEFT\n else\n  say LEFT\n for LEFT\n T4 = 0\n say T4; p; q\n"},
	})
}

func TestToldWhatIsLentAheadOfAChoice(t *testing.T) {
	toldWays(t, []toldCase{
		// It ends on neither way.
		{"lend r p.0\nif @n\nset r 1\nelse\nend\nset r 2\n", " r = at.0 p\n if n\n  T1 = 1\n  r = T1\n  say LEFT; r\n else\n  say LEFT; r\n for LEFT r\n T2 = 2\n r = T2\n T3 = 0\n p = put.0 p r\n say T3; p; q\n"},
		// On Then alone, by use.
		{"lend r p.0\nif @n\nset p.0 1\nelse\nend\n", " r = at.0 p\n if n\n  T1 = 1\n  p = put.0 p r\n  p = put.0 p T1\n  say LEFT\n else\n  p = put.0 p r\n  say LEFT\n for LEFT\n T2 = 0\n say T2; p; q\n"},
		// On Else alone, by use; in Then it is written through once more.
		{"lend r p.0\nif @n\nset r 3\nelse\nset p.0 1\nend\n", " r = at.0 p\n if n\n  T1 = 3\n  r = T1\n  p = put.0 p r\n  say LEFT\n else\n  T2 = 1\n  p = put.0 p r\n  p = put.0 p T2\n  say LEFT\n for LEFT\n T3 = 0\n say T3; p; q\n"},
		// On one way alone, by what is given there.
		{"lend r p.0\nif @n\nlend s p.0\nelse\nend\n", " r = at.0 p\n if n\n  p = put.0 p r\n  s = at.0 p\n  p = put.0 p s\n  say LEFT\n else\n  p = put.0 p r\n  say LEFT\n for LEFT\n T1 = 0\n say T1; p; q\n"},
		{"lend r p.0\nif @n\nelse\npick s p.0 q 1\nset s 2\nend\n", " r = at.0 p\n if n\n  p = put.0 p r\n  say LEFT\n else\n  T1 = 1\n  p = put.0 p r\n  if T1\n   say at.0 p\n  else\n   say q\n  for s\n  T2 = 2\n  s = T2\n  if T1\n   p = put.0 p s\n   say p; q\n  else\n   q = s\n   say p; q\n  for p q\n  say LEFT\n for LEFT\n T3 = 0\n say T3; p; q\n"},
		{"lend r p.0\nif @n\ncall s fst to p\nset s 2\nelse\nend\n", " r = at.0 p\n if n\n  p = put.0 p r\n  T1 = p\n  let s = fst T1\n  T2 = 2\n  s = T2\n  let T3 = fst_ T1; s\n  p = T3\n  say LEFT\n else\n  p = put.0 p r\n  say LEFT\n for LEFT\n T4 = 0\n say T4; p; q\n"},
		// On both.
		{"lend r p.0\nif @n\nset p.0 1\nelse\nlet x @p\nend\n", " r = at.0 p\n if n\n  T1 = 1\n  p = put.0 p r\n  p = put.0 p T1\n  say LEFT\n else\n  p = put.0 p r\n  x = p\n  say LEFT\n for LEFT\n T2 = 0\n say T2; p; q\n"},
		// One on each way, and one on neither; what was given last comes back first.
		{"lend r p.0\nlend s q\nlend u m\nlend v n\nif @v\nset p.0 1\nelse\nset q 2\nend\nset u.0 3\n", " r = at.0 p\n s = q\n u = m\n v = n\n if v\n  T1 = 1\n  p = put.0 p r\n  p = put.0 p T1\n  q = s\n  say LEFT; u; v\n else\n  T2 = 2\n  q = s\n  q = T2\n  p = put.0 p r\n  say LEFT; u; v\n for LEFT u v\n T3 = 3\n u = put.0 u T3\n T4 = 0\n n = v\n m = u\n say T4; p; q\n"},
		{"lend r p.0\nlend s p.1\nif @n\nset p , 1 2\nelse\nend\n", " r = at.0 p\n s = at.1 p\n if n\n  T1 = , 1 2\n  p = put.1 p s\n  p = put.0 p r\n  p = T1\n  say LEFT\n else\n  p = put.1 p s\n  p = put.0 p r\n  say LEFT\n for LEFT\n T2 = 0\n say T2; p; q\n"},
		// A lend of a lend, of which the inner one alone is not left, and both.
		{"lend r p\nlend s r.0\nif @n\nset r.0 1\nelse\nset s 2\nend\nset r.1 3\n", " r = p\n s = at.0 r\n if n\n  T1 = 1\n  r = put.0 r s\n  r = put.0 r T1\n  say LEFT; r\n else\n  T2 = 2\n  s = T2\n  r = put.0 r s\n  say LEFT; r\n for LEFT r\n T3 = 3\n r = put.1 r T3\n T4 = 0\n p = r\n say T4; p; q\n"},
		{"lend r p\nlend s r.0\nif @n\nelse\nset p.1 1\nend\n", " r = p\n s = at.0 r\n if n\n  r = put.0 r s\n  p = r\n  say LEFT\n else\n  T1 = 1\n  r = put.0 r s\n  p = r\n  p = put.1 p T1\n  say LEFT\n for LEFT\n T2 = 0\n say T2; p; q\n"},
		// What was picked, and given out, ahead of it.
		{"pick r q p.0 @n\nif @p.1\nset p.0 1\nelse\nend\n", " T1 = n\n if T1\n  say q\n else\n  say at.0 p\n for r\n if at.1 p\n  T2 = 1\n  if T1\n   q = r\n   say q; p\n  else\n   p = put.0 p r\n   say q; p\n  for q p\n  p = put.0 p T2\n  say LEFT\n else\n  if T1\n   q = r\n   say q; p\n  else\n   p = put.0 p r\n   say q; p\n  for q p\n  say LEFT\n for LEFT\n T3 = 0\n say T3; p; q\n"},
		{"call r one to q of 1 to p.0\nif @n\nelse\nset q 4\nend\nset q 5\n", " T1 = q\n T2 = 1\n T3 = at.0 p\n let r = one T1; T2; T3\n if n\n  let T4 T5 = one_ T1; T2; T3; r\n  q = T4\n  p = put.0 p T5\n  say LEFT\n else\n  T6 = 4\n  let T7 T8 = one_ T1; T2; T3; r\n  q = T7\n  p = put.0 p T8\n  q = T6\n  say LEFT\n for LEFT\n T9 = 5\n q = T9\n T10 = 0\n say T10; p; q\n"},
	})
}

func TestToldWhatIsGivenInAChoice(t *testing.T) {
	toldWays(t, []toldCase{
		// What is lent there ends there, by use or at its end.
		{"if @n\nlend s p.0\nset s 4\nset p.0 5\nelse\nlend t q\nend\n", " if n\n  s = at.0 p\n  T1 = 4\n  s = T1\n  T2 = 5\n  p = put.0 p s\n  p = put.0 p T2\n  say LEFT\n else\n  t = q\n  q = t\n  say LEFT\n for LEFT\n T3 = 0\n say T3; p; q\n"},
		{"if @n\nlend s p\nlend t s.1\nset t 4\nelse\nend\nset p.1 3\n", " if n\n  s = p\n  t = at.1 s\n  T1 = 4\n  t = T1\n  s = put.1 s t\n  p = s\n  say LEFT\n else\n  say LEFT\n for LEFT\n T2 = 3\n p = put.1 p T2\n T3 = 0\n say T3; p; q\n"},
		{"if @n\nlet v , @q 1\nlend s v.0\nset s 4\nset q @s\nelse\nend\n", " if n\n  v = , q 1\n  s = at.0 v\n  T1 = 4\n  s = T1\n  T2 = s\n  q = T2\n  v = put.0 v s\n  say LEFT\n else\n  say LEFT\n for LEFT\n T3 = 0\n say T3; p; q\n"},
		// It is lent from what was given ahead, which is left.
		{"lend r p\nif @n\nlend s r.0\nset s 1\nelse\npick t r.0 r.1 @n\nset t 2\nend\n", " r = p\n if n\n  s = at.0 r\n  T1 = 1\n  s = T1\n  r = put.0 r s\n  say LEFT; r\n else\n  T2 = n\n  if T2\n   say at.0 r\n  else\n   say at.1 r\n  for t\n  T3 = 2\n  t = T3\n  if T2\n   r = put.0 r t\n   say r\n  else\n   r = put.1 r t\n   say r\n  for r\n  say LEFT; r\n for LEFT r\n T4 = 0\n p = r\n say T4; p; q\n"},
		// And which is not left, as it ends on the other way: it comes back behind that.
		{"lend r p\nif @n\nlend s r.0\nset s 1\nelse\nset p.1 2\nend\n", " r = p\n if n\n  s = at.0 r\n  T1 = 1\n  s = T1\n  r = put.0 r s\n  p = r\n  say LEFT\n else\n  T2 = 2\n  p = r\n  p = put.1 p T2\n  say LEFT\n for LEFT\n T3 = 0\n say T3; p; q\n"},
		{"lend r p\nif @n\nset p.1 2\nelse\ncall s fst to r\nset s 1\nend\n", " r = p\n if n\n  T1 = 2\n  p = r\n  p = put.1 p T1\n  say LEFT\n else\n  T2 = r\n  let s = fst T2\n  T3 = 1\n  s = T3\n  let T4 = fst_ T2; s\n  r = T4\n  p = r\n  say LEFT\n for LEFT\n T5 = 0\n say T5; p; q\n"},
		// Temporary names: of Then, of what comes back at its end, of Else, of what comes back at its end, and behind.
		{"call r fst to p\nif @n\ncall s fst to m\nset s 1\nelse\nset p.0 2\nend\nset q 3\n", " T1 = p\n let r = fst T1\n if n\n  T2 = m\n  let s = fst T2\n  T3 = 1\n  s = T3\n  let T4 = fst_ T2; s\n  m = T4\n  let T5 = fst_ T1; r\n  p = T5\n  say LEFT\n else\n  T6 = 2\n  let T7 = fst_ T1; r\n  p = T7\n  p = put.0 p T6\n  say LEFT\n for LEFT\n T8 = 3\n q = T8\n T9 = 0\n say T9; p; q\n"},
		{"call r fst to p\nif @n\nset p.0 2\nelse\ncall s fst to m\nset s 1\nend\nset q 3\n", " T1 = p\n let r = fst T1\n if n\n  T2 = 2\n  let T3 = fst_ T1; r\n  p = T3\n  p = put.0 p T2\n  say LEFT\n else\n  T4 = m\n  let s = fst T4\n  T5 = 1\n  s = T5\n  let T6 = fst_ T4; s\n  m = T6\n  let T7 = fst_ T1; r\n  p = T7\n  say LEFT\n for LEFT\n T8 = 3\n q = T8\n T9 = 0\n say T9; p; q\n"},
		{"if @n\ncall s fst to p\nelse\ncall t fst to p\nend\ncall u fst to p\n", " if n\n  T1 = p\n  let s = fst T1\n  let T2 = fst_ T1; s\n  p = T2\n  say LEFT\n else\n  T3 = p\n  let t = fst T3\n  let T4 = fst_ T3; t\n  p = T4\n  say LEFT\n for LEFT\n T5 = p\n let u = fst T5\n T6 = 0\n let T7 = fst_ T5; u\n p = T7\n say T6; p; q\n"},
	})
}

func TestToldChoicesInChoices(t *testing.T) {
	toldWays(t, []toldCase{
		{"if @n\nif @q\nset q 1\nelse\nend\nelse\nif 1\nelse\nset q 2\nend\nend\n", " if n\n  if q\n   T1 = 1\n   q = T1\n   say LEFT\n  else\n   say LEFT\n  for LEFT\n  say LEFT\n else\n  if 1\n   say LEFT\n  else\n   T2 = 2\n   q = T2\n   say LEFT\n  for LEFT\n  say LEFT\n for LEFT\n T3 = 0\n say T3; p; q\n"},
		// What ends on one way of the inner one has ended behind both.
		{"lend r p.0\nif @n\nif @q\nset p.0 1\nelse\nend\nelse\nend\n", " r = at.0 p\n if n\n  if q\n   T1 = 1\n   p = put.0 p r\n   p = put.0 p T1\n   say LEFT\n  else\n   p = put.0 p r\n   say LEFT\n  for LEFT\n  say LEFT\n else\n  p = put.0 p r\n  say LEFT\n for LEFT\n T2 = 0\n say T2; p; q\n"},
		// What ends behind the inner one is left of that.
		{"lend r p.0\nif @n\nif @q\nset r 1\nelse\nend\nset p.0 2\nelse\nend\n", " r = at.0 p\n if n\n  if q\n   T1 = 1\n   r = T1\n   say LEFT; r\n  else\n   say LEFT; r\n  for LEFT r\n  T2 = 2\n  p = put.0 p r\n  p = put.0 p T2\n  say LEFT\n else\n  p = put.0 p r\n  say LEFT\n for LEFT\n T3 = 0\n say T3; p; q\n"},
		// So is what was given on the outer way, which is not left of that.
		{"if @n\nlend r p.0\nlet x 1\nif @x\nset r 1\nelse\nset x 2\nend\nset r 3\nelse\nend\n", " if n\n  r = at.0 p\n  x = 1\n  if x\n   T1 = 1\n   r = T1\n   say LEFT; r; x\n  else\n   T2 = 2\n   x = T2\n   say LEFT; r; x\n  for LEFT r x\n  T3 = 3\n  r = T3\n  p = put.0 p r\n  say LEFT\n else\n  say LEFT\n for LEFT\n T4 = 0\n say T4; p; q\n"},
		// On the other way of the outer one it ends, so that it comes back at the end of that, not of the inner ones.
		{"call r fst to p\nif @n\nset p.1 4\nelse\nif @q\nset r 1\nelse\nend\nif @q\nelse\nset r 2\nend\nend\nset q 5\n", " T1 = p\n let r = fst T1\n if n\n  T2 = 4\n  let T3 = fst_ T1; r\n  p = T3\n  p = put.1 p T2\n  say LEFT\n else\n  if q\n   T4 = 1\n   r = T4\n   say LEFT; r\n  else\n   say LEFT; r\n  for LEFT r\n  if q\n   say LEFT; r\n  else\n   T5 = 2\n   r = T5\n   say LEFT; r\n  for LEFT r\n  let T6 = fst_ T1; r\n  p = T6\n  say LEFT\n for LEFT\n T7 = 5\n q = T7\n T8 = 0\n say T8; p; q\n"},
	})
	// As deep as may be: the innermost of four choices is empty, as there may be no statement in it, and what was picked comes back ahead of it, and on each other way.
	lines := "pick r p.0 p.1 @n\n" + strings.Repeat("if 1\n", 3) + "set p.0 3\nif @q\nelse\nend\n" + strings.Repeat("else\nend\n", 3)
	back := func(blanks string) string {
		return blanks + strings.Join([]string{"if T1", " p = put.0 p r", " say p", "else", " p = put.1 p r", " say p", "for p"}, "\n"+blanks) + "\n"
	}
	want := " T1 = n\n if T1\n  say at.0 p\n else\n  say at.1 p\n for r\n if 1\n  if 1\n   if 1\n    T2 = 3\n" + back("    ") + "    p = put.0 p T2\n    if q\n     say LEFT\n    else\n     say LEFT\n    for LEFT\n    say LEFT\n" +
		"   else\n" + back("    ") + "    say LEFT\n   for LEFT\n   say LEFT\n" +
		"  else\n" + back("   ") + "   say LEFT\n  for LEFT\n  say LEFT\n" +
		" else\n" + back("  ") + "  say LEFT\n for LEFT\n"
	toldWays(t, []toldCase{{lines, want + " T3 = 0\n say T3; p; q\n"}})
}

// Programs that are not fine are not told: each code once, in the last function, or in one ahead of others.
func TestWhatIsNotFineIsNotTold(t *testing.T) {
	behind := says("zz", nil, nil, numberType, num(0))
	for _, c := range []struct {
		prog impl.Prog
		code int
	}{
		{fns(says("f", nil, nil, numberType, num(10000))), 1},
		{mustRead(t, "fn f\nsays i @x\n"), 2},
		{mustRead(t, "fn f\nhas n (i,i)\nsays i @n\n"), 3},
		{mustRead(t, "fn f\nlent p i\nlend r p\nset p 1\nset r 2\nsays i 0\n"), 4},
		{mustRead(t, "fn f\nhas n i\ngives i n\n"), 5},
	} {
		for _, p := range []impl.Prog{c.prog, fns(append(c.prog.Fns, behind)...), fns(behind, c.prog.Fns[0])} {
			if code, _ := impl.CheckOf(p); code != c.code {
				t.Errorf("the test's program is %d, not %d:\n%s", code, c.code, textOf(p))
			}
			if list, ok := impl.TransOf(p); ok || len(list) > 0 {
				t.Errorf("told, though it is %d:\n%s%s", c.code, textOf(p), impl.PureText(list))
			}
		}
	}
	if list, ok := impl.TransOf(impl.Prog{}); !ok || len(list) > 0 {
		t.Error("a program of no functions is told as none:", list, ok)
	}
	// A program that is in form, but whose text would be too long, is told as any other one.
	long := around(again(40, set(place("p", 0, 0, 0), two(3, two(3, two(3, read("p", 0, 0, 0), read("p", 0, 0, 0)), two(3, read("p", 0, 0, 0), read("p", 0, 0, 0))), two(3, two(3, read("p", 0, 0, 0), read("p", 0, 0, 0)), two(3, read("p", 0, 0, 0), read("p", 0, 0, 0))))))...)
	long.Fns[0].Params = params(lent("p", typesFrom("(((i,i),i),i)")[0]))
	if impl.ProgWrite(fns(long.Fns[0])) == "" {
		t.Fatal("the test made a function that is too long by itself")
	}
	two, three := long.Fns[0], long.Fns[0]
	two.Name, three.Name = "g", "h"
	long.Fns = append(long.Fns, two, three)
	if list, ok := mustTrans(t, long); impl.ProgWrite(long) != "" || !ok || len(list) != 3 {
		t.Error("it is too long for a text:", ok, len(list))
	}
}

// fourLent is functions that are lent four places: one gives out the first of them, the other one says a number.
func fourLent() []impl.Fn {
	four := params(lent("a", numberType), lent("b", numberType), lent("c", numberType), lent("d", numberType))
	return []impl.Fn{gives("g", four, nil, numberType, place("a")), says("h", four, nil, numberType, read("b"))}
}

// callsOfFour is a function of calls to these; each of one that gives out a place is 10 bindings, by what comes back, and each of the other one 9.
func callsOfFour(out int, say int) impl.Fn {
	var body []impl.Stmt
	for n := range out + say {
		fn := "g"
		if n >= out {
			fn = "h"
		}
		body = append(body, call(string([]byte{'r' + byte(n/26), 'a' + byte(n%26)}), fn, to("a"), to("b"), to("c"), to("d")))
	}
	return says("f", fourLent()[0].Params, body, numberType, read("a"))
}

// A body has at most 400 bindings. Neither names nor terms can grow too many: at most 4 parameters and 39 names are left of a choice, and a call says at most 5 terms.
func TestToldFunctionsThatAreNotOk(t *testing.T) {
	told := func(what string, fn impl.Fn, binds []int) {
		t.Helper()
		p := fns(append(fourLent(), fn)...)
		mustCheck(t, p, 0, 0)
		list, ok := impl.TransOf(p)
		if len(binds) == 0 {
			if ok || len(list) > 0 {
				t.Errorf("%s: told as functions that are not ok: %v, %d functions", what, ok, len(list))
			}
			return
		}
		if !ok {
			t.Fatalf("%s: not told", what)
		}
		for n, size := range binds {
			if got := len(list[n+3].Body.Binds); got != size {
				t.Errorf("%s: %d bindings in %s, not %d", what, got, list[n+3].Name, size)
			}
		}
		mustTrans(t, p)
		mustRunAsTold(t, p, list, 6)
	}
	told("40 calls that say", callsOfFour(0, 40), []int{361})
	told("39 that give out", callsOfFour(39, 0), []int{391})
	told("39 that give out, and one that says", callsOfFour(39, 1), []int{400})
	told("40 that give out", callsOfFour(40, 0), nil)
	// What is said of a place that is given out may be 400 bindings, and what comes back one more, which is too many.
	give := func(fn impl.Fn) impl.Fn {
		fn.Says, fn.Lent, fn.Gives = impl.Expr{}, true, place("c")
		return fn
	}
	told("39 that give out, and one that says, given out", give(callsOfFour(39, 1)), []int{399, 400})
	told("40 that give out, given out", give(callsOfFour(40, 0)), nil)
	// In a choice there is room for 400 once more.
	fn := callsOfFour(39, 0)
	fn.Body = stmts(choose(num(1), fn.Body, nil))
	told("39 in a choice", fn, []int{2})
	// One function that is not ok is enough, wherever it stands.
	many := callsOfFour(40, 0)
	p := fns(append(fourLent(), many, says("last", nil, nil, numberType, num(0)))...)
	mustCheck(t, p, 0, 0)
	if list, ok := impl.TransOf(p); ok || len(list) > 0 {
		t.Error("told:", ok, len(list))
	}
}

// As many names are left of a choice as there may be.
func TestToldWithAsManyNamesAsThereMayBe(t *testing.T) {
	var body []impl.Stmt
	for n := range 39 {
		name := string([]byte{'a' + byte(n/26), 'a' + byte(n%26)})
		body = append(body, let(name, num(n)))
	}
	body = append(body, choose(num(1), nil, nil))
	p := fns(says("f", fourLent()[0].Params, body, numberType, num(0)))
	list, ok := mustTrans(t, p)
	if !ok || len(list[0].Body.Binds[39].Names) != 43 {
		t.Error(ok, impl.PureText(list))
	}
	mustRunAsTold(t, p, list, 5)
}

// Whatever is drawn is told as the rules say that are told in another way; also of programs of five functions of up to 40 statements.
func TestAnyProgramIsTold(t *testing.T) {
	t.Parallel()
	for _, p := range append(fineProgs(t, 2000), fullProgs(40)...) {
		if _, ok := mustTrans(t, p); !ok {
			t.Fatalf("not told:\n%s", textOf(p))
		}
	}
}

// So it is, fine or not, if one thing of a program is changed.
func TestOneThingChangedIsTold(t *testing.T) {
	t.Parallel()
	count := map[bool]int{}
	for _, p := range fineProgs(t, 8) {
		p = copyOf(p)
		changes(&p, func() {
			_, ok := mustTrans(t, p)
			count[ok]++
		})
	}
	if count[true] < 1000 || count[false] < 1000 {
		t.Error("the test made too few programs that are told, or not:", count)
	}
}
