package tests

import (
	"slices"
	"testing"

	"loop.example/handfast/impl"
)

// What has ended on one way of a choice alone has ended behind it, but not on the other way.
func TestWhatEndsOnOneWay(t *testing.T) {
	checkAll(t, ahead, head, []checkCase{
		{"lend r p.0\nif @n\nset p.0 1\nelse\nend\nset r 2\n", 4},
		{"lend r p.0\nif @n\nelse\nset p.0 1\nend\nset r 2\n", 4},
		{"lend r p.0\nif @n\nset p.0 1\nelse\nset p.0 2\nend\nset r 2\n", 4},
		{"lend r p.0\nif @n\nset p.1 1\nelse\nset p.1 2\nend\nset r 2\n", 0},
		{"lend r p.0\nif @n\nset p.0 1\nelse\nset r 2\nend\n", 0},
		{"lend r p.0\nif @n\nset r 1\nelse\nset p.0 2\nend\n", 0},
		{"lend r p.0\nif @n\nset r 1\nelse\nset r 2\nend\nset r 3\n", 0},
		{"lend r p.0\nif @n\nset p.0 1\nset r 2\nelse\nend\n", 4},
		{"lend r p.0\nif @n\nelse\nset p.0 1\nset r 2\nend\n", 4},
		{"lend r p.0\nif @p.0\nset r 1\nelse\nend\n", 4},
		{"lend r p.0\nif @p.0\nelse\nset r 1\nend\n", 4},
		{"lend r p.0\nif @r\nset r 1\nelse\nset r 2\nend\nset r 3\n", 0},
		{"lend r p\nlend s r.0\nif @n\nset p.1 1\nelse\nend\nset s 3\n", 4},
		{"lend r p\nlend s r.0\nif @n\nset r.1 1\nelse\nset s 2\nend\nset s 3\n", 0},
		{"lend r p\nlend s r.0\nif @n\nset r.0 1\nelse\nset s 2\nend\nset r.0 3\n", 0},
		{"lend r p\nlend s r.0\nif @n\nset r.0 1\nelse\nset s 2\nend\nset s 3\n", 4},
		{"lend r p.0\nlend s q.0\nif @n\nset p.0 1\nset s 1\nelse\nset q.0 1\nset r 1\nend\n", 0},
		{"lend r p.0\nlend s q.0\nif @n\nset p.0 1\nelse\nset q.0 1\nend\nset r 1\n", 4},
		{"lend r p.0\nlend s q.0\nif @n\nset p.0 1\nelse\nset q.0 1\nend\nset s 1\n", 4},
		{"lend r p.0\nif @n\nif @m.0\nelse\nset p.0 1\nend\nelse\nset r 1\nend\nset r 1\n", 4},
		{"lend r p.0\nif @n\nif @m.0\nset p.0 1\nelse\nend\nset r 1\nelse\nend\n", 4},
		{"lend r p.0\nif @n\nif @m.0\nset p.0 1\nelse\nset r 1\nend\nelse\nset r 1\nend\n", 0},
		// What is lent in a choice is gone behind it, and so is no use of it.
		{"if @n\nlend r p.0\nset r 1\nelse\nlend s p.0\nset s 1\nend\nset p.0 1\n", 0},
		{"lend r p\nif @n\nlend s r.0\nset s 1\nelse\nend\nset r.0 1\n", 0},
		{"lend r p\nif @n\nlend s p.0\nset s 1\nelse\nset r.0 1\nend\n", 0},
		{"lend r p\nif @n\nlend s p.0\nset s 1\nelse\nend\nset r.0 1\n", 4},
		{"if @n\nlend s p.0\nset p.0 1\nset s 1\nelse\nend\n", 4},
		{"if @n\nlend s p.0\nif 1\nset p.0 1\nelse\nend\nset s 1\nelse\nend\n", 4},
	})
}

// Places that are lent to one call must not meet; all of an argument is gone through ahead of the next.
func TestPlacesOfOneCall(t *testing.T) {
	checkAll(t, ahead, head, []checkCase{
		{"call x two to p.0 to p.1\n", 0}, {"call x two to p.1 to p.0\n", 0}, {"call x two to p.0 to q.0\n", 0}, {"call x two to n to p.0\n", 0},
		{"call x two to p.0 to p.0\n", 4}, {"call x two to p.1 to p.1\n", 4}, {"call x two to n to n\n", 4},
		{"call x mix to p.0 of 1 to p\n", 4}, {"call x mix to p.0 of 1 to q\n", 0}, {"call x mix to m.1 of 1 to m\n", 4},
		{"call x out to p.0 to p.0 of 1\n", 4}, {"call x out to p.0 to p.1 of 1\n", 0},
		// By a later argument that is an expression.
		{"call x mix to p.0 of @p.0 to q\n", 4}, {"call x mix to p.0 of @p.1 to q\n", 0}, {"call x mix to p.0 of + 1 @p.0 to q\n", 4}, {"call x out to p.0 to p.1 of @p.1\n", 4}, {"call x out to p.0 to p.1 of @p.0\n", 4}, {"call x out to p.0 to p.1 of @q.0\n", 0}, {"call x out to p.0 to q.0 of - @q.1 @p.1\n", 0}, {"call x out to n to q.0 of @n\n", 4},
		// An expression ahead of a place does not matter.
		{"call x mix to q.0 of @p.0 to p\n", 0}, {"call x mix to q.0 of + @p.0 @p.1 to p\n", 0},
		// By way of names that are lent.
		{"lend r p.0\ncall x two to r to p.0\n", 4}, {"lend r p.0\ncall x two to p.0 to r\n", 4}, {"lend r p.0\ncall x two to r to p.1\n", 0}, {"lend r p.0\ncall x two to p.1 to r\n", 0}, {"lend r p\ncall x two to r.0 to r.1\n", 0}, {"lend r p\ncall x two to r.0 to r.0\n", 4}, {"lend r p\ncall x two to r.0 to p.1\n", 4}, {"lend r p\ncall x two to p.1 to r.0\n", 4}, {"lend r p\nlend s r.0\ncall x two to s to r.1\n", 0}, {"lend r p\nlend s r.0\ncall x two to s to r.0\n", 4}, {"lend r p\nlend s r.0\ncall x two to s to p.1\n", 4}, {"lend r p\nlend s r.0\ncall x mix to s of @p.1 to q\n", 4}, {"lend r p\nlend s r.0\ncall x mix to s of @r.1 to q\n", 0}, {"pick r p.0 q.0 1\ncall x two to r to q.0\n", 4}, {"pick r p.0 q.0 1\ncall x two to r to q.1\n", 0}, {"pick r p.0 q.0 1\ncall x two to r to p.0\n", 4}, {"lend r p.0\nlend s q.0\ncall x two to r to s\n", 0}, {"lend r p.0\nset p.0 1\ncall x two to r to q.0\n", 4},
		// What is lent to a call counts so no longer behind it, unless the function gives out a place.
		{"call x two to p.0 to p.1\nset p.0 1\nset x 1\nset p.1 @x\n", 0}, {"call x two to p.0 to p.1\ncall y two to p.0 to p.1\nset x @y\n", 0},
		{"call x out to p.0 to q.0 of 1\nset p.0 1\nset x 1\n", 4}, {"call x out to p.0 to q.0 of 1\nset q 1\n", 3}, {"call x out to p.0 to q.0 of 1\nset q.0 1\nset x 1\n", 4}, {"call x out to p.0 to q.0 of 1\nset p.1 1\nset q.1 1\nset x 1\n", 0}, {"call x out to p.0 to q.0 of @n\nset n 1\nset x 1\n", 0}, {"call x out to p.0 to q.0 of @m.0\nset m @m\nset x 1\n", 0},
		{"lend r p.0\ncall x out to r to q.0 of 1\nset r 1\nset x 1\n", 4}, {"lend r p.0\ncall x out to r to q.0 of 1\nset x 1\nset r 1\n", 0}, {"lend r p.0\ncall x out to r to q.0 of 1\nset p.0 1\nset x 1\n", 4}, {"call x out to p.0 to q.0 of 1\ncall y out to x to p.1 of 1\nset y 1\nset x 1\nset p.1 1\n", 0}, {"call x out to p.0 to q.0 of 1\ncall y out to x to p.1 of 1\nset q.0 1\nset y 1\n", 4}, {"call x out to p.0 to q.0 of 1\ncall y out to x to p.0 of 1\n", 4},
	})
	checkAll(t, "fn all\nlent a i\nlent b i\nlent c i\nhas n i\nsays i 0\n", head, []checkCase{
		{"call x all to p.0 to p.1 to q.0 of @q.1\n", 0}, {"call x all to p.0 to p.1 to p.0 of 1\n", 4}, {"call x all to p.0 to q.0 to q.0 of 1\n", 4}, {"call x all to p.0 to p.0 to q.0 of 1\n", 4}, {"call x all to p.0 to p.1 to q.0 of @p.1\n", 4}, {"call x all to p.0 to p.1 to q.0 of @q.0\n", 4}, {"call x all to p.0 to p.1 to q.0 of @p.0\n", 4},
		{"lend r p.0\ncall x all to r to p.0 to r of 1\n", 4}, {"lend r p.0\ncall x all to q.0 to r to p.1 of @r\n", 4}, {"lend r p.0\ncall x all to q.0 to r to p.1 of @p.0\n", 4},
	})
}

func TestPlacesOfOnePick(t *testing.T) {
	checkAll(t, ahead, head, []checkCase{
		{"pick r p.0 p.1 1\nset r 1\n", 0}, {"pick r p.0 q.0 1\nset r 1\n", 0}, {"pick r p q 1\nset r @m\n", 0}, {"pick r p.0 n 1\nset r 1\n", 0},
		{"pick r p.0 p.0 1\n", 4}, {"pick r p p 1\n", 4}, {"pick r n n 1\n", 4},
		{"pick r p p.0 1\n", 3}, {"pick r p.0 p 1\n", 3},
		{"lend s p.0\npick r s p.0 1\n", 4}, {"lend s p.0\npick r p.0 s 1\n", 4}, {"lend s p.0\npick r s p.1 1\nset r 1\n", 0}, {"lend s p.0\npick r p.1 s 1\nset r 1\n", 0}, {"lend s p\npick r s.0 s.1 1\nset r 1\n", 0}, {"lend s p\npick r s p 1\n", 4}, {"lend s p\nlend o s.0\npick r o p.1 1\n", 4}, {"lend s p\nlend o s.0\npick r o s.1 1\nset r 1\n", 0}, {"lend s p\nlend o s.0\npick r s.1 o 1\nset r 1\n", 0},
		// What is chosen by is gone through ahead of both.
		{"pick r p.0 p.1 @p.0\nset r 1\n", 0}, {"lend s p.0\npick r s p.1 @p.0\n", 4}, {"lend s p.0\npick r s q.0 @s\nset r 1\n", 0}, {"lend s p.0\npick r q.0 q.1 @p.0\nset s 1\n", 4},
		// It ends by either, and so do those that are lent from it.
		{"pick r p.0 q.0 1\nset p.0 1\nset r 1\n", 4}, {"pick r p.0 q.0 1\nset q.0 1\nset r 1\n", 4}, {"pick r p.0 q.0 1\nset q @m\nset r 1\n", 4}, {"pick r p.0 q.0 1\nset q.1 1\nset p.1 1\nset r 1\n", 0}, {"pick r p q 1\nlend s r.0\nset q.1 1\nset s 1\n", 4}, {"pick r p q 1\nlend s r.0\nset r.1 1\nset s 1\n", 0}, {"pick r p q 1\nlend s r.0\nset r.0 1\nset r.1 1\n", 0}, {"pick r p q 1\nset r.0 1\nlend s p\nset s.0 1\nset r.0 1\n", 4},
	})
}

// A place that is given out must be of outside, by way of all places that it is lent from.
func TestWhatIsGivenOut(t *testing.T) {
	checkAll(t, ahead, head, []checkCase{
		{"gives i p.0\n", 0}, {"gives (i,i) q\n", 0}, {"gives i n\n", 5}, {"gives i m.0\n", 5}, {"gives (i,i) m\n", 5}, {"let v @p\ngives (i,i) v\n", 5}, {"let v @p\ngives i v.1\n", 5}, {"call x none\ngives i x\n", 5}, {"call x mix to p.0 of 1 to q\ngives i x.0\n", 5},
		{"lend r p\ngives (i,i) r\n", 0}, {"lend r p\ngives i r.1\n", 0}, {"lend r p\nlend s r.1\nlend u s\ngives i u\n", 0}, {"lend r m\ngives i r.0\n", 5}, {"lend r n\ngives i r\n", 5}, {"let v @p\nlend r v\ngives i r.0\n", 5}, {"let v @p\nlend r v\nlend s r.0\ngives i s\n", 5}, {"call x none\nlend r x\ngives i r\n", 5},
		{"pick r p q 1\ngives (i,i) r\n", 0}, {"pick r p.0 p.1 1\ngives i r\n", 0}, {"pick r p m 1\ngives (i,i) r\n", 5}, {"pick r m p 1\ngives (i,i) r\n", 5}, {"pick r n m.0 1\ngives i r\n", 5}, {"let v 1\npick r p.0 v 1\ngives i r\n", 5}, {"let v 1\npick r v p.0 0\ngives i r\n", 5}, {"lend s p.0\nlend o q\npick r s o.1 1\ngives i r\n", 0}, {"lend s p.0\nlend o m\npick r s o.1 1\ngives i r\n", 5}, {"pick s p.0 q.0 1\npick r s p.1 1\ngives i r\n", 0}, {"pick s p.0 n 1\npick r s p.1 1\ngives i r\n", 5}, {"pick s p.0 n 1\npick r p.1 s 1\nlend u r\ngives i u\n", 5}, {"pick s p m 1\nlend r s.0\nlend u q.0\npick w u r 1\ngives i w\n", 5}, {"pick s p m 1\nlend r s.0\nlend u q.0\npick w u r 1\ngives i q.1\n", 0},
		{"call r out to p.0 to q.0 of 1\ngives i r\n", 0}, {"call r out to p.0 to q.0 of @n\ngives i r\n", 0}, {"call r out to p.0 to n of 1\ngives i r\n", 5}, {"call r out to m.1 to q.0 of 1\ngives i r\n", 5}, {"call r out to n to m.0 of 1\ngives i r\n", 5}, {"let v 1\ncall r out to p.0 to v of 1\nlend s r\ngives i s\n", 5}, {"lend s p\ncall r out to s.0 to s.1 of 1\ncall u out to r to q.0 of 1\ngives i u\n", 0}, {"pick s p.0 n 1\ncall r out to q.1 to s of 1\ncall u out to q.0 to r of 1\ngives i u\n", 5},
		// It is used: it must be given, live, such a part, and of that type, ahead of where it is of.
		{"lend r p.0\nset p.0 1\ngives i r\n", 4}, {"lend r p.0\ngives i p.0\n", 0}, {"lend r n\nset n 1\ngives i r\n", 4}, {"gives i r\n", 2}, {"gives i n.0\n", 3}, {"gives i m\n", 3}, {"gives (i,i) n\n", 3}, {"lend r m\ngives i r\n", 3},
	})
	checkAll(t, "fn one\nlent a (i,i)\ngives i a.0\n", head, []checkCase{
		{"call r one to p\ngives i r\n", 0}, {"call r one to m\ngives i r\n", 5}, {"let v , 1 2\ncall r one to v\ngives i r\n", 5}, {"let v , 1 2\ncall r one to v\nset r 1\n", 0}, {"call r one to p\nset p.1 1\nset r 1\n", 4},
	})
}

// The first fault counts, within one statement, too.
func TestWhichFaultCounts(t *testing.T) {
	checkAll(t, ahead, head+"lend r p.0\nlend s r\nset p.0 1\n", []checkCase{
		// Of one place: the name, then whether it is live, then the part.
		{"let x @r\n", 4}, {"let x @r.0\n", 4}, {"let x @s.1.1\n", 4}, {"let x @zz.0\n", 2}, {"let x @n.0\n", 3},
		// Kids in order, and then what is made of them.
		{"let x + @r @zz\n", 4}, {"let x + @zz @r\n", 2}, {"let x + @m @zz\n", 2}, {"let x + @zz @m\n", 2}, {"let x + @m @r\n", 4}, {"let x , @n.0 @zz\n", 3}, {"let x < + @m 1 @zz\n", 3}, {"let x < @m + @zz 1\n", 2},
		// The expression, and then the name, or the place.
		{"let n @zz\n", 2}, {"let n @m.0.0\n", 3}, {"let n @r\n", 4}, {"let n + 1 @m\n", 3}, {"lend n r\n", 4}, {"lend n p.0.0\n", 3}, {"lend n zz\n", 2},
		{"set zz @r\n", 4}, {"set r @zz\n", 2}, {"set zz + 1 @m\n", 3}, {"set r @m\n", 4}, {"set n.0 @m\n", 3}, {"set zz @m\n", 2}, {"set r + 1 @m\n", 3},
		// A choice: what it is by, then Then, then Else.
		{"if @m\nset zz 1\nelse\nend\n", 3}, {"if @r\nset zz 1\nelse\nend\n", 4}, {"if @n\nset zz 1\nelse\nset r 1\nend\n", 2}, {"if @n\nset r 1\nelse\nset zz 1\nend\n", 4}, {"if @n\nelse\nset m 1\nend\nset zz 1\n", 3}, {"if @n\nlet x 1\nset r 1\nelse\nlet x 1\nend\n", 4}, {"if @n\nlet x 1\nelse\nset r 1\nlet x 1\nend\n", 4}, {"if @n\nlet x 1\nelse\nlet x 1\nset r 1\nend\n", 2},
		// A pick: what it is by, Place, Other, its type, whether Place has ended, and then the name.
		{"pick n zz r @m\n", 3}, {"pick n zz r @m.0.0\n", 3}, {"pick n zz r 1\n", 2}, {"pick n r zz 1\n", 4}, {"pick n p zz 1\n", 2}, {"pick n p r 1\n", 4}, {"pick n p.0.0 zz 1\n", 3}, {"pick n p q.0.0 1\n", 3}, {"pick n p q.0 1\n", 3}, {"pick n p p.0 1\n", 3}, {"pick n p p 1\n", 4}, {"pick n p q 1\n", 2}, {"lend o p\npick n o.0 p 1\n", 3}, {"lend o p\npick n o p 1\n", 4}, {"lend o p.0\npick n p.0 o.0 1\n", 4},
		// A call: the function, how many arguments, each in order, whether one has ended, and then the name.
		{"call n zz to zz\n", 2}, {"call n f to r\n", 2}, {"call n two to zz\n", 3}, {"call n two to zz to r to r\n", 3}, {"call n none of @zz\n", 3}, {"call n two of @zz to r\n", 3}, {"call n two to zz of 1\n", 2}, {"call n two to r of 1\n", 4}, {"call n two to p of @zz\n", 3}, {"call n two to p to zz\n", 3}, {"call n two to p.0 to zz\n", 2}, {"call n two to p.0 to r\n", 4}, {"call n two to p.0 to p\n", 3}, {"call n two to p.0 to p.0\n", 4}, {"call n two to p.0 to p.1\n", 2},
		{"call n mix to p.0 to r to q\n", 3}, {"call n mix to p.0 of @m to zz\n", 3}, {"call n mix to p.0 of @r to zz\n", 4}, {"call n mix to p.0 of @p.0 to zz\n", 2}, {"call n mix to p.0 of @p.0 to q.0\n", 3}, {"call n mix to p.0 of @p.0 of 1\n", 3}, {"call n mix to p.0 of @p.0 to p\n", 4}, {"call n mix to p.0 of @p.0 to q\n", 4}, {"call n mix to p.0 of @p.1 to q\n", 2}, {"call n out to p.0 to p.0 of @m\n", 3}, {"call n out to p.0 to p.0 of @zz\n", 2}, {"call n out to p.0 to p.0 of 1\n", 4},
		// Statements, and then what is said or given out.
		{"set r 1\nsays i @zz\n", 4}, {"says i @r\n", 4}, {"says i + @m @r\n", 4}, {"says (i,i) @n.0\n", 3}, {"gives i zz\n", 2}, {"gives (i,i) r\n", 4}, {"gives (i,i) n\n", 3}, {"gives i n\n", 5}, {"set zz 1\ngives i n\n", 2},
	})
	checkAll(t, ahead, "", []checkCase{
		{"fn f\nhas a i\nhas a i\nset zz , 1 @a.0\nsays (i,i) 0\n", 2}, {"fn f\nhas a i\nset a.0 1\nlet a 1\n", 3}, {"fn two\nset m , 1 2\nsays (i,i) 0\n", 2}, {"fn none\nlet x 1\ngives i x\n", 2},
	})
}

// What is in form is gone through, also if its text would be too long.
func TestFormAndFaults(t *testing.T) {
	for n, p := range []impl.Prog{
		{Fns: make([]impl.Fn, 1)}, fns(again(6, says("f", nil, nil, numberType, num(0)))...), fns(says("f", nil, nil, numberType, num(0)), says("", nil, nil, numberType, num(0))),
		around(impl.Stmt{}), around(impl.Stmt{Kind: 7}), around(let("x", num(10000))), around(let("x", num(-1))), around(let("X", num(1))), around(lend("r", place("p", 2))), around(let("x", read("zz")), let("Y", num(1))), around(again(41, let("x", num(1)))...),
		fns(says("f", again(5, has("a", numberType)), nil, numberType, num(0))), fns(says("f", nil, nil, deepType(5), num(0))), fns(says("f", params(has("a", deepType(5))), nil, numberType, num(0))), fns(says("f", nil, nil, numberType, impl.Expr{})), fns(impl.Fn{Name: "f", Lent: true, Gives: place("p"), Says: num(1)}),
		around(call("x", "g", again(5, of(num(1)))...)), around(deepRow(5, 0)...), around(let("x", deepExpr(5, 3, 0))),
		fns(says("f", nil, nil, numberType, read("zz")), says("f", nil, nil, numberType, num(10000))), fns(says("f", nil, nil, numberType, num(0)), says("f", nil, stmts(impl.Stmt{}), numberType, num(0))),
	} {
		if code, at := impl.CheckOf(p); code != 1 || at != 0 {
			t.Errorf("program %d: %d in %d", n, code, at)
		}
		if impl.ProgWrite(p) != "" || len(impl.CheckLive(p, 0, 0)) > 0 {
			t.Errorf("program %d has a text, or live names", n)
		}
	}
	mustCheck(t, longProg(6000), 2, 0)
	mustCheck(t, longProg(6010), 2, 0)
	fn := says("f", params(lent("p", pairType(numberType, numberType))), again(40, set(place("p", 1), two(3, two(3, read("p", 0), read("p", 1)), two(4, read("p", 0), num(9999))))), numberType, num(0))
	long := fns(again(5, fn)...)
	for n := range long.Fns {
		long.Fns[n].Name = "abcde"[n : n+1]
	}
	if len(textOf(long)) <= 6000 || impl.ProgWrite(long) != "" {
		t.Fatal("the test's program is not too long")
	}
	mustCheck(t, long, 0, 0)
	if got := impl.CheckLive(long, 4, 40); !slices.Equal(got, []string{"p"}) {
		t.Error(got)
	}
	long.Fns[4].Says = read("zz")
	mustCheck(t, long, 2, 4)
}

// The most of all: functions, parameters, statements, arguments, and how deep they are.
func TestLimitsAreFine(t *testing.T) {
	deep := two(3, two(3, two(3, num(1), num(2)), num(3)), num(4))
	full := again(40, set(place("a"), deep))
	head := params(lent("a", numberType), lent("b", deepType(4)), has("c", deepType(4)), has("d", numberType))
	p := fns(says("a", head, full, numberType, deep), says("b", head, stmts(call("x", "a", to("a"), to("b"), of(read("c")), of(deep)), choose(num(1), stmts(choose(num(1), stmts(choose(num(1), stmts(let("y", num(1))), nil)), nil)), nil)), numberType, num(0)), gives("c", head, nil, numberType, place("b", 1, 1, 1)), gives("d", head, nil, deepType(4), place("b")), says("e", nil, nil, numberType, num(9999)))
	mustCheck(t, p, 0, 0)
	if got := impl.CheckLive(p, 0, 40); !slices.Equal(got, []string{"a", "b", "c", "d"}) {
		t.Error(got)
	}
}
