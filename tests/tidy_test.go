package tests

import (
	"slices"
	"strconv"
	"strings"
	"testing"

	"loop.example/handfast/impl"
)

// Functions with no Params, with one and with many, and such without bindings.
func TestTidiedParams(t *testing.T) {
	tidyAll(t, tidyCase{}, []tidyCase{
		{"", ""},
		{"f\n say\n", "f\n say\n"},
		{"f\n say 3; 0; 9999\n", "f\n say 3; 0; 9999\n"},
		{"f a\n say\n", "f U1\n say\n"},
		{"f a\n say a\n", "f U1\n say U1\n"},
		{"f a\n say a; 1; a; a\n", "f U1\n say U1; 1; U1; U1\n"},
		{"f b a\n say a; b\n", "f U1 U2\n say U2; U1\n"},
		{"f a b c d e\n say e; c; a; b; d; c\n", "f U1 U2 U3 U4 U5\n say U5; U3; U1; U2; U4; U3\n"},
		{"f Z_9 _ 0z abcdefghijkl\n say 0z; abcdefghijkl; _; Z_9\n", "f U1 U2 U3 U4\n say U3; U4; U2; U1\n"},
		{"f\n say 1\ng a\n say a\nh\n say\n", "f\n say 1\ng U1\n say U1\nh\n say\n"},
	})
	var all []impl.Term
	want := "f"
	for n, name := range numbered(60) {
		all = append(all, nameTerm(name))
		want += " U" + strconv.Itoa(n+1)
	}
	slices.Reverse(all)
	want += "\n say U60"
	for n := 59; n > 0; n-- {
		want += "; U" + strconv.Itoa(n)
	}
	list := []impl.Pure{{Name: "f", Params: numbered(60), Body: saying(all)}}
	if got := impl.PureText(mustTidy(t, list)); got != want+"\n" {
		t.Error(got)
	}
}

// Each kind of term, with names in each Kid, and terms in terms.
func TestTidiedTerms(t *testing.T) {
	tidyAll(t, tidyCase{}, []tidyCase{
		{"f a b\n say + a b; - a b; < a b; , a b\n", "f U1 U2\n say + U1 U2; - U1 U2; < U1 U2; , U1 U2\n"},
		{"f a b\n say + b a; - b a; < b a; , b a\n", "f U1 U2\n say + U2 U1; - U2 U1; < U2 U1; , U2 U1\n"},
		{"f a b\n say + a 3; - 4 b; < a a; , 5 6\n", "f U1 U2\n say + U1 3; - 4 U2; < U1 U1; , 5 6\n"},
		{"f a b\n say at a; at.0 b; at.1 a; at.0.1.1.0 b\n", "f U1 U2\n say at U1; at.0 U2; at.1 U1; at.0.1.1.0 U2\n"},
		{"f a b\n say put a b; put.0 b a; put.1.0 a 7; put.0.0.1.1 7 b\n", "f U1 U2\n say put U1 U2; put.0 U2 U1; put.1.0 U1 7; put.0.0.1.1 7 U2\n"},
		{"f a b\n say + - a 1 < b a; at.0 , at.1 a put.0 b a\n", "f U1 U2\n say + - U1 1 < U2 U1; at.0 , at.1 U1 put.0 U2 U1\n"},
		{"f a b\n say at at at a; put.1 at.0 a , 2 b; put put a b put b a\n", "f U1 U2\n say at at at U1; put.1 at.0 U1 , 2 U2; put put U1 U2 put U2 U1\n"},
		{"f a\n say + 1 + 2 + 3 + 4 + 5 + 6 + 7 a; at at at at at at at a\n", "f U1\n say + 1 + 2 + 3 + 4 + 5 + 6 + 7 U1; at at at at at at at U1\n"},
		// A number in each Kid.
		{"f a\n n = 7\n say + n a; + a n; - n a; - a n; < n a; < a n; , n a; , a n\n", "f U1\n say + 7 U1; + U1 7; - 7 U1; - U1 7; < 7 U1; < U1 7; , 7 U1; , U1 7\n"},
		{"f a\n n = 7\n say at n; at.0 n; put n a; put a n; put.0.1 n a; put.0.1 a n; , + n n at , n n\n", "f U1\n say at 7; at.0 7; put 7 U1; put U1 7; put.0.1 7 U1; put.0.1 U1 7; , + 7 7 at , 7 7\n"},
		// Another name in each Kid.
		{"f a b\n n = b\n say + n a; + a n; - n a; - a n; < n a; < a n; , n a; , a n\n", "f U1 U2\n say + U2 U1; + U1 U2; - U2 U1; - U1 U2; < U2 U1; < U1 U2; , U2 U1; , U1 U2\n"},
		{"f a b\n n = b\n say at n; at.0 n; put n a; put a n; put.0.1 n a; put.0.1 a n; , + n n at , n n\n", "f U1 U2\n say at U2; at.0 U2; put U2 U1; put U1 U2; put.0.1 U2 U1; put.0.1 U1 U2; , + U2 U2 at , U2 U2\n"},
		// What a part without a path is, or what is put so, is no name, and no number.
		{"f a\n b = at a\n c = at 3\n say b; c\n", "f U1\n U2 = at U1\n U3 = at 3\n say U2; U3\n"},
		{"f a\n b = put 1 a\n c = put a 3\n say b; c\n", "f U1\n U2 = put 1 U1\n U3 = put U1 3\n say U2; U3\n"},
		// Nor is what two numbers make.
		{"f\n a = 1\n b = + a 2\n c = + b 0\n say a; b; c\n", "f\n U1 = + 1 2\n U2 = + U1 0\n say 1; U1; U2\n"},
	})
}

// Bindings with no Names, with one and with many, of each kind; calls of a function that stands ahead, and of one further ahead.
func TestTidiedBindings(t *testing.T) {
	ahead := tidyCase{"e\n say\ng a b\n say b; 3; a\nh x\n let a b c = g x; 5\n d = b\n say d\n", "e\n say\ng U1 U2\n say U2; 3; U1\nh U1\n let U2 U3 U4 = g U1; 5\n say U3\n"}
	tidyAll(t, ahead, []tidyCase{
		{"f a\n let = e\n let = e\n say a\n", "f U1\n let = e\n let = e\n say U1\n"},
		{"f a\n let b = h a\n let c = h b\n say c; b; a\n", "f U1\n let U2 = h U1\n let U3 = h U2\n say U3; U2; U1\n"},
		{"f a\n let b c d = g a; 1\n let x y z = g d; b\n say x; d; y; c; z; b\n", "f U1\n let U2 U3 U4 = g U1; 1\n let U5 U6 U7 = g U4; U2\n say U5; U4; U6; U3; U7; U2\n"},
		{"f a\n n = 8\n m = a\n let b = h n\n let c = h m\n let x y z = g m; n\n say c; b\n", "f U1\n let U2 = h 8\n let U3 = h U1\n let U4 U5 U6 = g U1; 8\n say U3; U2\n"},
		{"f a\n let b = h + a 1\n let x y z = g , a b; at.0 b\n say x\n", "f U1\n let U2 = h + U1 1\n let U3 U4 U5 = g , U1 U2; at.0 U2\n say U3\n"},
		{"f a\n b = + a 1\n c = at.0 b\n d = put.0 c b\n say d; c; b; a\n", "f U1\n U2 = + U1 1\n U3 = at.0 U2\n U4 = put.0 U3 U2\n say U4; U3; U2; U1\n"},
		{"f a\n if a\n  say\n else\n  say\n for\n say a\n", "f U1\n if U1\n  say\n else\n  say\n for\n say U1\n"},
		{"f a\n if a\n  say a\n else\n  say 2\n for b\n say a; b\n", "f U1\n if U1\n  say U1\n else\n  say 2\n for U2\n say U1; U2\n"},
		{"f a\n if < a 3\n  say a; 1; + a 1\n else\n  say 4; a; , a a\n for x y z\n say z; y; x\n", "f U1\n if < U1 3\n  say U1; 1; + U1 1\n else\n  say 4; U1; , U1 U1\n for U2 U3 U4\n say U4; U3; U2\n"},
		{"f a\n if a\n  let = e\n  let x y z = g a; a\n  say x\n else\n  let x = h a\n  let = e\n  say x\n for x\n say x\n", "f U1\n if U1\n  let = e\n  let U2 U3 U4 = g U1; U1\n  say U2\n else\n  let U5 = h U1\n  let = e\n  say U5\n for U6\n say U6\n"},
	})
	// As many names of one binding as there may be, and as many terms.
	var all []impl.Term
	for _, name := range numbered(60) {
		all = append(all, nameTerm(name))
	}
	list := []impl.Pure{{Name: "g", Params: numbered(60), Body: saying(all)}, {Name: "f", Params: numbered(60), Body: saying(all, bindCall(numbered(60), "g", all...))}}
	lines := strings.Split(impl.PureText(mustTidy(t, list)), "\n")
	if !strings.HasPrefix(lines[3], " let U61 U62 U63 ") || !strings.Contains(lines[3], " U119 U120 = g U1; U2; U3; ") || !strings.HasSuffix(lines[4], "; U119; U120") {
		t.Error(lines[3], lines[4])
	}
}

// Names that are bound anew: a use says what a name stood for then.
func TestTidiedNamesThatAreBoundAnew(t *testing.T) {
	tidyAll(t, tidyCase{"e\n say 6\ng a b\n say b; a\n", "e\n say 6\ng U1 U2\n say U2; U1\n"}, []tidyCase{
		// A name that is given another name, which is bound anew between that and the use.
		{"f a\n b = a\n a = + a 1\n say b; a\n", "f U1\n U2 = + U1 1\n say U1; U2\n"},
		{"f a b\n x = a\n a = , a b\n y = x\n x = b\n say y; x; a\n", "f U1 U2\n U3 = , U1 U2\n say U1; U2; U3\n"},
		{"f a\n b = + a 1\n c = b\n b = + b 2\n d = b\n b = + c 3\n say d; c; b\n", "f U1\n U2 = + U1 1\n U3 = + U2 2\n U4 = + U2 3\n say U3; U2; U4\n"},
		{"f a\n b = a\n a = 5\n say b; a\n", "f U1\n say U1; 5\n"},
		{"f a\n b = a\n let a = e\n say b; a\n", "f U1\n let U2 = e\n say U1; U2\n"},
		{"f a\n b = a\n if b\n  say 1\n else\n  say b\n for a\n say b; a\n", "f U1\n if U1\n  say 1\n else\n  say U1\n for U2\n say U1; U2\n"},
		// A name that is given another name, and is bound anew itself.
		{"f a\n b = a\n c = b\n b = + a 1\n say c; b; a\n", "f U1\n U2 = + U1 1\n say U1; U2; U1\n"},
		{"f a c\n b = a\n b = c\n say b\n", "f U1 U2\n say U2\n"},
		// A name that stands for a name that stands for a name.
		{"f a\n b = a\n c = b\n d = c\n say d; c; b; a\n", "f U1\n say U1; U1; U1; U1\n"},
		{"f a\n b = a\n c = b\n d = c\n a = + a 1\n b = + a 2\n c = + a 3\n say d; c; b; a\n", "f U1\n U2 = + U1 1\n U3 = + U2 2\n U4 = + U2 3\n say U1; U4; U3; U2\n"},
		{"f\n a = 3\n b = a\n c = b\n d = c\n a = 4\n b = a\n say d; c; b; a\n", "f\n say 3; 3; 4; 4\n"},
		// A name that stands for a number, which is bound anew as a name, and the other way.
		{"f a\n n = 5\n m = n\n n = a\n say n; m\n", "f U1\n say U1; 5\n"},
		{"f a\n n = a\n m = n\n n = 5\n say n; m\n", "f U1\n say 5; U1\n"},
		{"f a\n n = 5\n m = + n a\n n = m\n k = n\n n = 6\n say n; m; k\n", "f U1\n U2 = + 5 U1\n say 6; U2; U2\n"},
		{"f n\n m = n\n n = 0\n n = n\n say n; m\n", "f U1\n say 0; U1\n"},
		{"f a\n a = 1\n a = 2\n a = 3\n say a\n", "f U1\n say 3\n"},
		// A name bound to itself.
		{"f a\n a = a\n say a\n", "f U1\n say U1\n"},
		{"f a\n b = + a 1\n b = b\n b = b\n b = + b b\n b = b\n say b; a\n", "f U1\n U2 = + U1 1\n U3 = + U2 U2\n say U3; U1\n"},
		{"f a\n if a\n  a = a\n  say a\n else\n  say a\n for a\n a = a\n say a\n", "f U1\n if U1\n  say U1\n else\n  say U1\n for U2\n say U2\n"},
		// Names that are turned about by way of one more.
		{"f a b\n t = a\n a = b\n b = t\n say a; b\n", "f U1 U2\n say U2; U1\n"},
		{"f a b\n t = a\n a = b\n b = t\n t = a\n a = b\n b = t\n say a; b; t\n", "f U1 U2\n say U1; U2; U2\n"},
		{"f a b c\n t = a\n a = b\n b = c\n c = t\n say a; b; c; t\n", "f U1 U2 U3\n say U2; U3; U1; U1\n"},
		{"f a b\n a = + a 1\n b = + b 2\n t = b\n b = a\n a = t\n a = + a 3\n say a; b; t\n", "f U1 U2\n U3 = + U1 1\n U4 = + U2 2\n U5 = + U4 3\n say U5; U3; U4\n"},
		// A Param that is bound anew, and is used behind that.
		{"f a\n a = + a 1\n say a\n", "f U1\n U2 = + U1 1\n say U2\n"},
		{"f a b\n a = , a b\n b = , b a\n a = , b a\n say a; b\n", "f U1 U2\n U3 = , U1 U2\n U4 = , U2 U3\n U5 = , U4 U3\n say U5; U4\n"},
		{"f a b\n a = b\n say a; b\n", "f U1 U2\n say U2; U2\n"},
		// By a call, whose terms use it as it was; in what order its names are.
		{"f a\n let a b = g a; + a 1\n say a; b\n", "f U1\n let U2 U3 = g U1; + U1 1\n say U2; U3\n"},
		{"f a b\n let b a = g a; b\n let b a = g a; b\n say a; b\n", "f U1 U2\n let U3 U4 = g U1; U2\n let U5 U6 = g U4; U3\n say U6; U5\n"},
		{"f a\n b = a\n let b a = g b; a\n say a; b\n", "f U1\n let U2 U3 = g U1; U1\n say U3; U2\n"},
		{"f\n b = 4\n let b a = g b; 5\n c = b\n let a b = g b; c\n say a; b; c\n", "f\n let U1 U2 = g 4; 5\n let U3 U4 = g U1; U1\n say U3; U4; U1\n"},
		// By a choice, whose terms, and what it says, use it as it was.
		{"f a\n if + a 1\n  say + a 2\n else\n  say + a 3\n for a\n say a\n", "f U1\n if + U1 1\n  say + U1 2\n else\n  say + U1 3\n for U2\n say U2\n"},
		{"f a b\n if a\n  say b; a\n else\n  say a; b\n for a b\n if b\n  say b; a\n else\n  say a; b\n for b a\n say a; b\n", "f U1 U2\n if U1\n  say U2; U1\n else\n  say U1; U2\n for U3 U4\n if U4\n  say U4; U3\n else\n  say U3; U4\n for U5 U6\n say U6; U5\n"},
		{"f a\n b = a\n if b\n  say b\n else\n  say 0\n for b\n say a; b\n", "f U1\n if U1\n  say U1\n else\n  say 0\n for U2\n say U1; U2\n"},
	})
}

// Choices: what is bound in Then and in Else is bound there alone, and stands behind it for what it stood for.
func TestTidiedChoices(t *testing.T) {
	tidyAll(t, tidyCase{"e\n say 6\n", "e\n say 6\n"}, []tidyCase{
		{"f a\n x = 1\n if a\n  x = 2\n  say x\n else\n  x = 3\n  say x\n for y\n say x; y\n", "f U1\n if U1\n  say 2\n else\n  say 3\n for U2\n say 1; U2\n"},
		{"f a\n x = + a 1\n if x\n  x = + x 2\n  say x\n else\n  x = + x 3\n  say x\n for y\n say x; y\n", "f U1\n U2 = + U1 1\n if U2\n  U3 = + U2 2\n  say U3\n else\n  U4 = + U2 3\n  say U4\n for U5\n say U2; U5\n"},
		{"f a\n x = a\n if a\n  x = 2\n  x = + x x\n  say x\n else\n  say x\n for y\n say x; y\n", "f U1\n if U1\n  U2 = + 2 2\n  say U2\n else\n  say U1\n for U3\n say U1; U3\n"},
		{"f a\n if a\n  let a = e\n  say a\n else\n  say a\n for y\n say a; y\n", "f U1\n if U1\n  let U2 = e\n  say U2\n else\n  say U1\n for U3\n say U1; U3\n"},
		{"f a\n if a\n  say a\n else\n  let a = e\n  say a\n for y\n say a; y\n", "f U1\n if U1\n  say U1\n else\n  let U2 = e\n  say U2\n for U3\n say U1; U3\n"},
		{"f a\n if a\n  a = 0\n  say\n else\n  a = 1\n  say\n for\n if a\n  a = 2\n  say\n else\n  say\n for\n say a\n", "f U1\n if U1\n  say\n else\n  say\n for\n if U1\n  say\n else\n  say\n for\n say U1\n"},
		// A name that the one body binds does not stand in the other one.
		{"f a\n x = + a 5\n if a\n  x = at x\n  y = x\n  say y\n else\n  y = x\n  say y\n for x\n say x\n", "f U1\n U2 = + U1 5\n if U1\n  U3 = at U2\n  say U3\n else\n  say U2\n for U4\n say U4\n"},
		// Left out in Then, in Else, and in both.
		{"f a\n if a\n  b = a\n  b = + b 1\n  c = b\n  say c\n else\n  b = + a 2\n  say b\n for b\n say b\n", "f U1\n if U1\n  U2 = + U1 1\n  say U2\n else\n  U3 = + U1 2\n  say U3\n for U4\n say U4\n"},
		{"f a\n if a\n  b = + a 2\n  say b\n else\n  b = a\n  b = + b 1\n  c = b\n  say c\n for b\n say b\n", "f U1\n if U1\n  U2 = + U1 2\n  say U2\n else\n  U3 = + U1 1\n  say U3\n for U4\n say U4\n"},
		{"f a\n if a\n  b = a\n  c = b\n  say c; 1\n else\n  c = 5\n  b = c\n  say b; a\n for b c\n d = c\n say d; b\n", "f U1\n if U1\n  say U1; 1\n else\n  say 5; U1\n for U2 U3\n say U3; U2\n"},
		// A choice by a name, or a number, that was left out.
		{"f a\n c = a\n if c\n  say c\n else\n  say a\n for d\n say d\n", "f U1\n if U1\n  say U1\n else\n  say U1\n for U2\n say U2\n"},
		{"f a\n c = 1\n if c\n  say c\n else\n  say a\n for d\n say d\n", "f U1\n if 1\n  say 1\n else\n  say U1\n for U2\n say U2\n"},
		{"f a\n c = 0\n d = c\n if d\n  say c\n else\n  say a\n for c\n say c; d\n", "f U1\n if 0\n  say 0\n else\n  say U1\n for U2\n say U2; 0\n"},
		{"f a\n c = a\n a = 0\n if + c a\n  say 1\n else\n  say 2\n for d\n say d\n", "f U1\n if + U1 0\n  say 1\n else\n  say 2\n for U2\n say U2\n"},
		// Empty bodies, of which nothing is left.
		{"f a\n if a\n  x = 1\n  y = x\n  say\n else\n  x = a\n  say\n for\n say a\n", "f U1\n if U1\n  say\n else\n  say\n for\n say U1\n"},
		{"f a\n if 1\n  say\n else\n  say\n for\n if 0\n  say\n else\n  x = 1\n  say\n for\n say\n", "f U1\n if 1\n  say\n else\n  say\n for\n if 0\n  say\n else\n  say\n for\n say\n"},
		{"f a\n b = a\n b = 1\n say\n", "f U1\n say\n"},
	})
}

// What is left out in a choice in a choice, and in what order new names are: Then, then Else, then those of the choice itself.
func TestTidiedChoicesInChoices(t *testing.T) {
	tidyAll(t, tidyCase{}, []tidyCase{
		{"f a\n if a\n  x = + a 1\n  y = + a 2\n  say x; y\n else\n  x = + a 3\n  say x; x\n for x y\n z = + x y\n say z\n", "f U1\n if U1\n  U2 = + U1 1\n  U3 = + U1 2\n  say U2; U3\n else\n  U4 = + U1 3\n  say U4; U4\n for U5 U6\n U7 = + U5 U6\n say U7\n"},
		{"f a\n b = a\n if b\n  c = b\n  if c\n   d = c\n   d = + d 1\n   say d\n  else\n   d = 7\n   say d\n  for e\n  c = e\n  say c\n else\n  if 2\n   b = 3\n   say b\n  else\n   x = at b\n   y = x\n   say y\n  for b\n  say b\n for c\n say c; b\n",
			"f U1\n if U1\n  if U1\n   U2 = + U1 1\n   say U2\n  else\n   say 7\n  for U3\n  say U3\n else\n  if 2\n   say 3\n  else\n   U4 = at U1\n   say U4\n  for U5\n  say U5\n for U6\n say U6; U1\n"},
		{"f a\n if a\n  a = + a 1\n  if a\n   a = + a 2\n   if a\n    a = + a 3\n    say a\n   else\n    say a\n   for b\n   say a; b\n  else\n   say a; a\n  for b c\n  say a; b; c\n else\n  say a; a; 0\n for b c d\n say a; b; c; d\n",
			"f U1\n if U1\n  U2 = + U1 1\n  if U2\n   U3 = + U2 2\n   if U3\n    U4 = + U3 3\n    say U4\n   else\n    say U3\n   for U5\n   say U3; U5\n  else\n   say U2; U2\n  for U6 U7\n  say U2; U6; U7\n else\n  say U1; U1; 0\n for U8 U9 U10\n say U1; U8; U9; U10\n"},
		// What a name stands for in a body goes on in those in it, and hides what it stands for outside.
		{"f a b\n x = a\n if a\n  x = b\n  if b\n   x = 1\n   say x\n  else\n   say x\n  for y\n  say x; y\n else\n  if b\n   say x\n  else\n   x = 2\n   say x\n  for y\n  say x; y\n for z y\n say x; z; y\n",
			"f U1 U2\n if U1\n  if U2\n   say 1\n  else\n   say U2\n  for U3\n  say U2; U3\n else\n  if U2\n   say U1\n  else\n   say 2\n  for U4\n  say U1; U4\n for U5 U6\n say U1; U5; U6\n"},
		// As deep as bodies may be.
		{"f a\n if a\n  if a\n   if a\n    if a\n     if a\n      b = a\n      a = + b 1\n      say a\n     else\n      a = 3\n      say a\n     for a\n     say a\n    else\n     say 4\n    for b\n    say b\n   else\n    say a\n   for a\n   say a\n  else\n   say 5\n  for c\n  say c\n else\n  say 6\n for b\n say a; b\n",
			"f U1\n if U1\n  if U1\n   if U1\n    if U1\n     if U1\n      U2 = + U1 1\n      say U2\n     else\n      say 3\n     for U3\n     say U3\n    else\n     say 4\n    for U4\n    say U4\n   else\n    say U1\n   for U5\n   say U5\n  else\n   say 5\n  for U6\n  say U6\n else\n  say 6\n for U7\n say U1; U7\n"},
	})
}

// Names that are as new ones are, in another order, also of numbers that are taken only later, and functions of such names; each function begins anew.
func TestTidiedNamesThatAreAsNewOnes(t *testing.T) {
	tidyAll(t, tidyCase{}, []tidyCase{
		{"f U1 U2\n say U1; U2\n", "f U1 U2\n say U1; U2\n"},
		{"f U2 U1\n say U1; U2\n", "f U1 U2\n say U2; U1\n"},
		{"U2 U2 U1\n U3 = U1\n U1 = + U2 U3\n say U3; U1; U2\n", "U2 U1 U2\n U3 = + U1 U2\n say U2; U3; U1\n"},
		{"f U3 U1 U2\n U1 = , U2 U3\n U2 = , U3 U1\n U3 = , U1 U2\n say U1; U2; U3\n", "f U1 U2 U3\n U4 = , U3 U1\n U5 = , U1 U4\n U6 = , U4 U5\n say U4; U5; U6\n"},
		{"f U5 U4\n U1 = + U4 1\n U2 = U1\n U3 = + U5 U2\n U4 = 5\n U5 = U4\n say U1; U2; U3; U4; U5\n", "f U1 U2\n U3 = + U2 1\n U4 = + U1 U3\n say U3; U3; U4; 5; 5\n"},
		{"f U9\n U1 = U9\n U9 = 3\n U2 = , U1 U9\n U1 = at U2\n say U1; U9; U2\n", "f U1\n U2 = , U1 3\n U3 = at U2\n say U3; 3; U2\n"},
		{"f U1\n U1 = U1\n U2 = U1\n U1 = + U2 1\n say U1; U2\n", "f U1\n U2 = + U1 1\n say U2; U1\n"},
		{"f U7 U8\n U1 = U8\n U2 = U7\n U7 = U1\n U8 = U2\n say U7; U8; U1; U2\n", "f U1 U2\n say U2; U1; U2; U1\n"},
		{"f U2\n if U2\n  U1 = + U2 1\n  say U1\n else\n  U3 = + U2 2\n  say U3\n for U1\n say U1; U2\n", "f U1\n if U1\n  U2 = + U1 1\n  say U2\n else\n  U3 = + U1 2\n  say U3\n for U4\n say U4; U1\n"},
		{"f U01 U1 U\n U10 = + U U01\n say U10; U1\n", "f U1 U2 U3\n U4 = + U3 U1\n say U4; U2\n"},
		{"f L1 T1\n T2 = T1\n T1 = + T1 L1\n say T1; T2\n", "f U1 U2\n U3 = + U2 U1\n say U3; U2\n"},
		{"U1 U1\n U2 = + U1 1\n say U2; U1\nU2 U2\n let U1 U3 = U1 U2\n say U1; U3\nU3 a\n let a b = U2 a\n let b a = U1 b\n say a; b\n", "U1 U1\n U2 = + U1 1\n say U2; U1\nU2 U1\n let U2 U3 = U1 U1\n say U2; U3\nU3 U1\n let U2 U3 = U2 U1\n let U4 U5 = U1 U3\n say U5; U4\n"},
		{"f a b c\n say a\ng a b\n d = + a b\n say d\nh a\n b = a\n say b\n", "f U1 U2 U3\n say U1\ng U1 U2\n U3 = + U1 U2\n say U3\nh U1\n say U1\n"},
	})
}

// New names of four figures, and of five.
func TestTidiedNamesOfManyFigures(t *testing.T) {
	all := again(60, numTerm(4))
	many := pure("many", "", saying(all))
	for _, c := range []struct {
		calls int
		last  string
	}{{1, "U62"}, {2, "U122"}, {16, "U962"}, {17, "U1022"}, {166, "U9962"}, {167, "U10022"}, {398, "U23882"}} {
		body := saying(terms(nameTerm("n59"), nameTerm("n0"), nameTerm("n"), nameTerm("z"), nameTerm("a")), again(c.calls, bindCall(numbered(60), "many"))...)
		body.Binds = append(body.Binds, bindTerm("n", nameTerm("n0")), bindTerm("z", twoTerm(3, nameTerm("n"), nameTerm("n59"))))
		list := []impl.Pure{many, {Name: "f", Params: []string{"a"}, Body: body}, {Name: "g", Params: []string{"a"}, Body: saying(terms(nameTerm("a")))}}
		n := 60 * c.calls
		text := impl.PureText(mustTidy(t, list))
		low, high := "U"+strconv.Itoa(n-58), "U"+strconv.Itoa(n+1)
		want := "\n " + c.last + " = + " + low + " " + high + "\n say " + high + "; " + low + "; " + low + "; " + c.last + "; U1\ng U1\n say U1\n"
		if !strings.HasSuffix(text, want) {
			t.Errorf("%d calls end with %q, not with %q", c.calls, text[len(text)-len(want):], want)
		}
	}
}

// How many bindings there are.
func TestTidySize(t *testing.T) {
	for text, want := range map[string]int{
		"":                                      0,
		"f\n say\n":                             0,
		"f a b\n say a; + a b\n":                0,
		"f a\n b = a\n say b\n":                 1,
		"f a\n b = at a\n say b\n":              1,
		"f a\n b = 1\n b = 2\n b = b\n say b\n": 3,
		"e\n say\nf\n let = e\n say\n":          1,
		"e a\n say a\nf\n let x = e 1\n let x = e x\n say\n":                                                       2,
		"f a\n if a\n  say\n else\n  say\n for\n say\n":                                                            1,
		"f a\n if a\n  b = 1\n  c = 2\n  say\n else\n  say\n for\n say\n":                                          3,
		"f a\n if a\n  say\n else\n  b = 1\n  c = 2\n  say\n for\n say\n":                                          3,
		"f a\n x = 1\n if a\n  b = 1\n  say b\n else\n  b = 1\n  c = 2\n  say c\n for x\n y = x\n say\n":           6,
		"e\n a = 1\n say\nf\n b = 1\n c = 2\n say\ng\n say\nh\n d = 4\n say\n":                                     4,
		"f a\n if a\n  if a\n   b = 1\n   say\n  else\n   say\n  for\n  say\n else\n  say\n for\n say\n":           3,
		"f a\n if a\n  say\n else\n  if a\n   say\n  else\n   b = 1\n   c = b\n   say\n  for\n  say\n for\n say\n": 4,
	} {
		list := puresFrom(text)
		mustTidy(t, list)
		if got := impl.TidySize(list); got != want {
			t.Errorf("%d, not %d, in\n%s", got, want, text)
		}
	}
	if impl.TidySize(nil) != 0 || impl.TidySize([]impl.Pure{}) != 0 {
		t.Error("of no functions")
	}
	// As many as there may be in a body, and in both bodies of each of 40 choices.
	row := again(400, bindTerm("x", numTerm(1)))
	choice := bindIf(nil, numTerm(1), saying(nil, row...), saying(nil, row...))
	list := []impl.Pure{pure("f", "", saying(nil, row...)), pure("g", "", saying(nil, again(40, choice)...))}
	if got := impl.TidySize(list); got != 400+40*801 {
		t.Error(got)
	}
	want := "f\n say\ng\n" + strings.Repeat(" if 1\n  say\n else\n  say\n for\n", 40) + " say\n"
	if got := impl.PureText(impl.TidyOf(list)); got != want || impl.TidySize(impl.TidyOf(list)) != 40 {
		t.Error("tidied it is", got)
	}
}

// notTidied checks that of functions nothing is told.
func notTidied(t *testing.T, what string, list []impl.Pure) {
	t.Helper()
	if got := impl.TidyOf(list); len(got) > 0 {
		t.Errorf("%s: tidied as\n%.500s", what, impl.PureText(got))
	}
	if got := impl.TidySize(list); got != -1 {
		t.Errorf("%s: there are %d bindings", what, got)
	}
}

// Functions that are not ok, by hand, also beside such that are.
func TestWhatIsNotOkIsNotTidied(t *testing.T) {
	for _, text := range pureWrong {
		list := puresFrom(text)
		notTidied(t, text, list)
		notTidied(t, text+"behind", append(slices.Clone(list), pure("zz", "", impl.Body{})))
		if !strings.Contains(text, "zz") {
			notTidied(t, text+"ahead", append([]impl.Pure{pure("zz", "a", saying(terms(nameTerm("a"))))}, list...))
		}
	}
	notTidied(t, "no name", []impl.Pure{{}})
	for _, list := range [][]impl.Pure{nil, {}, make([]impl.Pure, 0, 3)} {
		if got := impl.TidyOf(list); len(got) > 0 || impl.TidySize(list) != 0 {
			t.Error("no functions are tidied as", got)
		}
	}
}

// One thing changed at a time, in functions that are ok; most then are not.
func TestTidiedWithOneThingChanged(t *testing.T) {
	t.Parallel()
	turn, count := 0, map[bool]int{}
	for _, text := range pureSamples {
		list := copyOf(puresFrom(text))
		changesOf(&list, func() {
			if turn++; turn%5 != 0 {
				return
			}
			mustTidy(t, list)
			count[impl.PureOk(list)]++
		})
	}
	if count[true] < 300 || count[false] < 1000 {
		t.Error("the test made too few of some kind:", count)
	}
}

// What is at a limit is tidied; what is one above is not.
func TestTidiedAtTheLimits(t *testing.T) {
	a := nameTerm("a")
	deep := func(n int) impl.Body {
		body := saying(terms(a), bindTerm("a", a))
		for range n - 1 {
			body = saying(terms(a), bindIf([]string{"a"}, a, body, saying(terms(a))))
		}
		return body
	}
	binds := func(n int) []impl.Bind { return again(n, bindTerm("a", twoTerm(3, a, numTerm(1)))) }
	moves := func(n int) []impl.Bind { return again(n, bindTerm("a", a)) }
	funcs := func(n int) []impl.Pure {
		var list []impl.Pure
		for at := range n {
			list = append(list, pure("f"+strconv.Itoa(at), "a", saying(terms(a), moves(at)...)))
		}
		return list
	}
	one := func(body impl.Body) []impl.Pure { return []impl.Pure{pure("f", "a", body)} }
	named := func(name string) []impl.Pure {
		return []impl.Pure{pure(name, name, saying(terms(nameTerm(name)), bindTerm(name, nameTerm(name))))}
	}
	sum := func(n int) impl.Term {
		x := a
		for range n - 1 {
			x = twoTerm(3, x, numTerm(1))
		}
		return x
	}
	for _, c := range []struct {
		what string
		at   []impl.Pure
		over []impl.Pure
	}{
		{"functions", funcs(10), funcs(11)},
		{"Params", []impl.Pure{{Name: "f", Params: numbered(60)}}, []impl.Pure{{Name: "f", Params: numbered(61)}}},
		{"bindings", one(saying(terms(a), binds(400)...)), one(saying(terms(a), binds(401)...))},
		{"bindings that are left out", one(saying(terms(a), moves(400)...)), one(saying(terms(a), moves(401)...))},
		{"bodies", one(deep(6)), one(deep(7))},
		{"what is said", one(saying(again(60, a))), one(saying(again(61, a)))},
		{"terms", one(saying(terms(sum(8)))), one(saying(terms(sum(9))))},
		{"paths", one(saying(terms(atTerm(a, 0, 1, 0, 1)))), one(saying(terms(atTerm(a, 0, 1, 0, 1, 0))))},
		{"numbers", one(saying(terms(a), bindTerm("b", numTerm(9999)))), one(saying(terms(a), bindTerm("b", numTerm(10000))))},
		{"names", named(strings.Repeat("z", 12)), named(strings.Repeat("z", 13))},
	} {
		if got := mustTidy(t, c.at); len(got) != len(c.at) {
			t.Error(c.what, "are not tidied")
		}
		mustTidy(t, c.over)
		notTidied(t, c.what, c.over)
	}
}

// Tidied told functions, as a program's text has them: what is left of them is what happens.
func TestTidiedToldFunctions(t *testing.T) {
	for _, c := range []struct {
		program string
		want    string
	}{
		{"fn f\nsays i 0\n", "f\n say 0\n"},
		{"fn f\nlent p i\nlend r p\nset r 5\nsays i @p\n", "f U1\n say 5; 5\n"},
		{"fn f\nlent p (i,i)\nlend r p.0\nset r 5\nsays i @p.1\n", "f U1\n U2 = at.0 U1\n U3 = at.1 U1\n U4 = put.0 U1 5\n say U3; U4\n"},
		{"fn g\nlent p (i,i)\ngives i p.0\nfn f\nlent p (i,i)\ncall r g to p\nset r 5\nsays i @p.1\n", "g U1\n say at.0 U1\ng_ U1 U2\n U3 = put.0 U1 U2\n say U3\nf U1\n let U2 = g U1\n let U3 = g_ U1; 5\n U4 = at.1 U3\n say U4; U3\n"},
		{"fn f\nlent p i\nlent q i\nhas n i\npick r p q @n\nset r + @r 1\nsays i @r\n", "f U1 U2 U3\n if U3\n  say U1\n else\n  say U2\n for U4\n U5 = + U4 1\n if U3\n  say U5; U2\n else\n  say U1; U5\n for U6 U7\n say U5; U6; U7\n"},
		{"fn f\nlent p i\nif @p\nlet x 3\nset p @x\nelse\nend\nsays i @p\n", "f U1\n if U1\n  say 3\n else\n  say U1\n for U2\n say U2; U2\n"},
	} {
		list := mustTold(t, mustRead(t, c.program))
		if got := impl.PureText(mustTidy(t, list)); got != c.want {
			t.Errorf("tidied as\n%sit should be\n%s", got, c.want)
		}
	}
}
