package tests

import (
	"slices"
	"strconv"
	"strings"
	"testing"

	"loop.example/handfast/impl"
)

// Sums, differences and comparisons.
func TestSimplerNumbers(t *testing.T) {
	simpAll(t, []simpCase{
		{"+ 2 3", "5"}, {"+ 0 0", "0"}, {"+ 9999 0", "9999"}, {"+ 9998 1", "9999"}, {"+ 0 9999", "9999"}, {"+ 5000 4999", "9999"},
		{"- 3 2", "1"}, {"- 3 3", "0"}, {"- 0 0", "0"}, {"- 9999 0", "9999"}, {"- 9999 9999", "0"},
		{"< 2 3", "1"}, {"< 3 3", "0"}, {"< 3 2", "0"}, {"< 0 9999", "1"}, {"< 9999 0", "0"}, {"< 0 1", "1"}, {"< 9999 9999", "0"},
		// Sums in sums, of which one fails within.
		{"+ + 1 2 + 3 4", "10"}, {"- + 5 5 - 9 8", "9"}, {"+ < 1 2 < 2 1", "1"}, {"< + 1 1 - 9 6", "1"}, {"- < 0 1 < 1 2", "0"}, {"+ + 9999 0 - 7 7", "9999"},
		{"+ - 1 2 + 3 4", "+ - 1 2 7"}, {"- + 2 3 + 9999 1", "- 5 + 9999 1"}, {"< - 1 1 - 0 1", "< 0 - 0 1"}, {"+ + + 1 2 - 0 1 + 3 4", "+ + 3 - 0 1 7"},
		{"+ + 1 2 + 9998 2", "+ 3 + 9998 2"}, {"+ + 9998 1 1", "+ 9999 1"}, {"- - 5 3 4", "- 2 4"},
		// Of a number and a name, within.
		{"+ + 1 2 a", "+ 3 a"}, {"- a - 7 5", "- a 2"}, {"< + a 1 + 1 1", "< + a 1 2"}, {"+ + + 1 2 a + 3 4", "+ + 3 a 7"},
		// In other terms.
		{", + 1 2 - 2 1", ", 3 1"}, {"at.0 + 1 2", "at.0 3"}, {"put.0 a + 1 2", "put.0 a 3"}, {"put.0 - 3 2 < 1 2", "put.0 1 1"},
		{"+ + + + + + + 1 1 1 1 1 1 1 1", "8"},
		{"+ 1 + 1 + 1 + 1 + 1 + 1 + 1 9992", "9999"}, {"+ 1 + 1 + 1 + 1 + 1 + 1 + 1 9993", "+ 1 9999"},
	})
	simpSame(t, "0", "5", "9999", "a", "+ 9999 1", "+ 1 9999", "+ 9999 9999", "+ 5000 5000", "- 2 3", "- 0 1", "- 0 9999", "- 9998 9999", "- + 9999 1 1", "< - 0 1 5", "+ - 0 1 1", "+ 1 - 0 1",
		"+ a 0", "+ 0 a", "- a 0", "- a a", "- 0 a", "< a a", "< a 0", "< 0 a", "+ a b", "+ 2 a", "+ a 2",
		", 1 2", ", a 1", ", , 1 2 3", "+ , 1 2 3", "+ 3 , 1 2", "- , 1 2 , 1 2", "< , a b 1", "< , 1 2 , 1 3", "+ 1 at.0 2", "- put.0 a 1 1")
}

// Names of figures are no numbers, and names as words are plain, too.
func TestSimplerNamesLikeOtherThings(t *testing.T) {
	two, three := nameTerm("2"), nameTerm("3")
	for kind := 3; kind <= 6; kind++ {
		for _, x := range terms(twoTerm(kind, two, three), twoTerm(kind, two, numTerm(3)), twoTerm(kind, numTerm(3), two)) {
			if mustSimp(t, x); !stays(x) {
				t.Errorf("%v is %v", x, impl.SimpTerm(x))
			}
		}
	}
	for _, name := range []string{"at", "put", "0", "007", "_", "say", "let", "9999", "abcdefghijkl"} {
		x := nameTerm(name)
		for _, one := range terms(atTerm(x), atTerm(twoTerm(6, x, nameTerm("q")), 0), atTerm(twoTerm(6, nameTerm("q"), x), 1), putTerm(nameTerm("q"), x), atTerm(putTerm(nameTerm("q"), x, 1), 1)) {
			if got := mustSimp(t, one); !sameThing(got, x) {
				t.Errorf("%v is %v", one, got)
			}
		}
	}
}

// Parts without a path, of each kind of term, and parts of parts.
func TestSimplerParts(t *testing.T) {
	simpAll(t, []simpCase{
		{"at 5", "5"}, {"at a", "a"}, {"at + a 1", "+ a 1"}, {"at - a 1", "- a 1"}, {"at < a 1", "< a 1"}, {"at , a b", ", a b"}, {"at at.0 a", "at.0 a"}, {"at put.0 a b", "put.0 a b"},
		{"at + 1 2", "3"}, {"at - 1 2", "- 1 2"}, {"at at a", "a"}, {"at at at at at at at 7", "7"}, {"at put a b", "b"}, {"at put + a 1 b", "put + a 1 b"},
		{"at at.0 at a", "at.0 a"}, {"at.0 at a", "at.0 a"}, {"at.0 at at.1 a", "at.1.0 a"}, {"+ at a at 1", "+ a 1"}, {"+ at 2 at 1", "3"},
		{"at.1 at.0 a", "at.0.1 a"}, {"at.1.0 at.0.1 a", "at.0.1.1.0 a"}, {"at.1 at.0.0.0 a", "at.0.0.0.1 a"}, {"at.1.1.1 at.0 a", "at.0.1.1.1 a"},
		{"at.1 at.0 at.1 a", "at.1.0.1 a"}, {"at.0 at.1 at.1 at.0 a", "at.0.1.1.0 a"}, {"at.0 at.1 at at.0.1 a", "at.0.1.1.0 a"},
		{"at.0 at.0 5", "at.0.0 5"}, {"at.0 at.1 + a 1", "at.1.0 + a 1"}, {"at.1 at.0 - 5 1", "at.0.1 4"}, {"at.0 at.1 put.1.0 a b", "b"},
		{"at.0 at.1 put.1.0.0 a b", "at.1.0 put.1.0.0 a b"}, {"at.0 at.1 , + a 1 b", "at.1.0 , + a 1 b"},
	})
	simpSame(t, "at.0 a", "at.1 a", "at.0.1.0.1 a", "at.0 5", "at.0 + a 1", "at.1 - 0 1", "at.0 < a b")
}

// Parts of pairs, by each first place: the other Kid a number, a name, or anything else; the rest of the path empty, or not.
func TestSimplerPartsOfPairs(t *testing.T) {
	simpAll(t, []simpCase{
		{"at.0 , a 5", "a"}, {"at.0 , a b", "a"}, {"at.0 , 5 b", "5"}, {"at.0 , 5 6", "5"}, {"at.1 , a 5", "5"}, {"at.1 , a b", "b"}, {"at.1 , 5 b", "b"}, {"at.1 , 5 6", "6"},
		{"at.0 , + a 1 b", "+ a 1"}, {"at.1 , b + a 1", "+ a 1"}, {"at.0 , - 0 1 7", "- 0 1"}, {"at.1 , 7 - 0 1", "- 0 1"}, {"at.0 , , a b 5", ", a b"}, {"at.1 , 5 , a b", ", a b"},
		{"at.0 , at.1 a 5", "at.1 a"}, {"at.1 , a put.0 b c", "put.0 b c"},
		// With a rest.
		{"at.0.1 , a 5", "at.1 a"}, {"at.1.0.1 , 5 b", "at.0.1 b"}, {"at.0.1.0.1 , a b", "at.1.0.1 a"}, {"at.0.0 , 5 a", "at.0 5"}, {"at.1.1 , a + b 1", "at.1 + b 1"}, {"at.0.1 , at.0 a b", "at.0.1 a"}, {"at.0.1.0 , at.0.0 a 5", "at.0.0.1.0 a"},
		// A pair in a pair.
		{"at.0.1 , , a b c", "b"}, {"at.0.0 , , a b c", "a"}, {"at.1.0 , a , b c", "b"}, {"at.1.1 , a , b c", "c"}, {"at.0 , , a b c", ", a b"}, {"at.0.1 , , a + b 1 c", "+ b 1"}, {"at.0.0 , , a + b 1 c", "at.0 , a + b 1"},
		{"at.0.1.0 , , a , b c d", "b"}, {"at.0.1.0.1 , , a , , b c c d", "c"}, {"at.0.0.1 , , a b c", "at.1 a"}, {"at.1.0.0.0 , a , , b c d", "at.0 b"}, {"at.0.0 , , + a 1 + b 1 c", "at.0 , + a 1 + b 1"},
		// The other Kid is plain only as it was made simpler.
		{"at.0 , a + 1 2", "a"}, {"at.1 , at b + a 1", "+ a 1"}, {"at.0 , + a 1 put b 5", "+ a 1"}, {"at.1 , at.0 , a b c", "c"},
	})
	simpSame(t, "at.0 , a + a 1", "at.1 , + a 1 a", "at.0 , a - 1 2", "at.1 , - 1 2 a", "at.0 , a < a b", "at.0 , a , a b", "at.1 , , a b a", "at.0 , a at.0 b", "at.1 , at.1 b a", "at.0 , a put.0 a b", "at.1 , put.0 a b 5", "at.0 , + a 1 + b 1", "at.1 , + a 1 + b 1", "at.0.1 , a + a 1", "at.1.0 , + a 1 , a b", "at.0.0 , , a b + a 1", "at.1 , , 1 2 3", "at.0.1.0.1 , a - 0 1", ", a b", ", , a b c")
}

// Parts of what has another part: by a path that begins that one's, by the same, by one that is begun by that one's, and by such as part.
func TestSimplerPartsOfPuts(t *testing.T) {
	simpAll(t, []simpCase{
		// The same.
		{"at.0 put.0 a b", "b"}, {"at.0 put.0 5 b", "b"}, {"at.1 put.1 a 5", "5"}, {"at.0 put.0 a + b 1", "+ b 1"}, {"at.0.1 put.0.1 a b", "b"}, {"at.0.1.0.1 put.0.1.0.1 a , b c", ", b c"},
		// Begun by that one's.
		{"at.0.1 put.0 a b", "at.1 b"}, {"at.0.1 put.0 a + b 1", "at.1 + b 1"}, {"at.0.1.1.0 put.0.1 a b", "at.1.0 b"}, {"at.1.1.1.1 put.1 a 5", "at.1.1.1 5"}, {"at.0.1 put.0 a , b 5", "5"}, {"at.0.1.0 put.0 a at.1 b", "at.1.1.0 b"}, {"at.0.1 put.0 a put.1 b c", "c"},
		// Parting at the first place.
		{"at.1 put.0 a b", "at.1 a"}, {"at.0 put.1 a 5", "at.0 a"}, {"at.1 put.0 + a 1 b", "at.1 + a 1"}, {"at.0.1 put.1 a b", "at.0.1 a"}, {"at.1 put.0.1 a b", "at.1 a"}, {"at.1.1 put.0.1 , a c b", "at.1 c"}, {"at.0 put.1.1.1.1 5 6", "at.0 5"},
		{"at.1 put.0 put.1 a b c", "b"}, {"at.1 put.0 at.0 a b", "at.0.1 a"},
		// Further on.
		{"at.0.1 put.0.0 a b", "at.0.1 a"}, {"at.0.1.0 put.0.1.1 a b", "at.0.1.0 a"}, {"at.0.1.1.0 put.0.0.1 a 5", "at.0.1.1.0 a"}, {"at.1.0 put.1.1.0.0 + a 1 b", "at.1.0 + a 1"}, {"at.1.1.1.0 put.1.1.1.1 a b", "at.1.1.1.0 a"},
		// One without a path within.
		{"at.0 put a b", "at.0 b"}, {"at put a b", "b"}, {"at.0 put 5 , b c", "b"}, {"at.1 put a put.0 b c", "at.1 b"},
	})
	simpSame(t,
		// It begins that one's alone.
		"at.0 put.0.1 a b", "at.0 put.0.1 a + b 1", "at.0 put.0.1 + a 1 b", "at.0 put.0.1 + a 1 + b 1", "at.1.0 put.1.0.1.1 a b", "at.1.0.1 put.1.0.1.1 a 5", "at.0 put.0.0 5 5",
		// The same, or begun by that one's, and that one's first Kid is not plain.
		"at.0 put.0 + a 1 b", "at.0 put.0 + a 1 + b 1", "at.0 put.0 , a b c", "at.0.1 put.0 , a b c", "at.0.1 put.0 at.1 a b", "at.1.1 put.1 - 0 1 + b 1", "at.0.1.1.1 put.0.1 < a b 5",
		// Parting, and its second Kid is not plain.
		"at.1 put.0 a + b 1", "at.1 put.0 + a 1 + b 1", "at.0.1 put.1 5 - 0 1", "at.0.1 put.0.0 a + b 1", "at.0.1.0 put.0.1.1 a , b c", "at.1 put.0 a at.0 b", "at.0.1 put.0.0 at.1 a at.0 b",
		// One without a path within, whose first Kid is not plain.
		"at.0 put + a 1 b", "at.1 put , a b c", "at.0 put at.0 a + b 1", "at.0.1 put - 0 1 5")
}

// What has another part, without a path, and of one that has another part by the same path, by a longer, a shorter and another one.
func TestSimplerPuts(t *testing.T) {
	simpAll(t, []simpCase{
		{"put a b", "b"}, {"put 5 b", "b"}, {"put a 5", "5"}, {"put a + b 1", "+ b 1"}, {"put 5 , a b", ", a b"}, {"put a a", "a"}, {"put + 1 2 b", "b"}, {"put at.0 , a b c", "c"}, {"put a - 0 1", "- 0 1"},
		{"put.0 put.0 a b c", "put.0 a c"}, {"put.0 put.0 a 5 + c 1", "put.0 a + c 1"}, {"put.0 put.0 + a 1 b c", "put.0 + a 1 c"}, {"put.0.1.0.1 put.0.1.0.1 a b 5", "put.0.1.0.1 a 5"}, {"put.1 put.1 5 6 7", "put.1 5 7"}, {"put.0 put.0 a + 1 2 c", "put.0 a c"},
		// Without a path both.
		{"put put a b c", "c"}, {"put put + a 1 b c", "put + a 1 c"}, {"put put + a 1 5 + c 1", "put + a 1 + c 1"}, {"put put put - 0 1 b c d", "put - 0 1 d"}, {"put put a + b 1 c", "put + b 1 c"},
		// One of them without a path.
		{"put.0 put a b c", "put.0 b c"}, {"put.0 put a put.0 b c d", "put.0 b d"},
		// Three in each other.
		{"put.0 put.0 put.0 a b c d", "put.0 a d"}, {"put.0 put.0 put.0 a + b 1 c d", "put.0 put.0 a + b 1 d"}, {"put.0 put.0 put.0 a b + c 1 d", "put.0 put.0 a + c 1 d"}, {"put.1 put.1 put.0 a b c d", "put.1 put.0 a b d"}, {"put.0 put.1 put.1 a b c d", "put.0 put.1 a c d"},
		{"put.0 put.0 put.0 put.0 a 1 2 3 4", "put.0 a 4"}, {"put.0 put.0 put.0 put.0 a 1 + b 2 3 4", "put.0 put.0 a + b 2 4"},
		// By the same path only as the Kids were made simpler.
		{"put.0 at put.0 a b c", "put.0 a c"}, {"put.0 at.1 , a put.0 b c d", "put.0 b d"}, {"put.0 at.1 put.1 a put.0 b c d", "put.0 b d"}, {"put.0 put.0 put.0 a b at.0 , c d 5", "put.0 a 5"}, {"put.1 put put 5 a put.1 b c d", "put.1 b d"},
		// In the second Kid.
		{"put.0 a put.0 put.0 b c d", "put.0 a put.0 b d"}, {"put.0 a put b c", "put.0 a c"},
	})
	simpSame(t, "put.0 a b", "put.0 5 6", "put + a 1 b", "put , a b c", "put at.0 a b", "put - 0 1 5", "put put.0 a b c", "put.0 put + a 1 b c", "put put + a 1 + b 1 c",
		"put.0 put.0 a + b 1 c", "put.0 put.0 a , b c d", "put.0 put.0 a - 0 1 5", "put.0 put.0.1 a b c", "put.0.1 put.0 a b c", "put.0 put.1 a b c", "put.0.1 put.0.0 a b c", "put.0.1 put.1.1 a b c", "put.1 put.0 put.1 a b c d", "put.0 put.0 put.0 a + b 1 + c 1 d", "put.0 a put.0 b c", "put.0 at.0 put.0.1 a b c")
}

// Rules that meet one behind the other, and several at once.
func TestSimplerByManyRules(t *testing.T) {
	simpAll(t, []simpCase{
		{"at.1 at.0 , at.0 a b", "at.0.1 a"}, {"at.1 at.0 , at.0 a at.1 a", "at.0.1 , at.0 a at.1 a"}, {"at.0 at.0 , , a b c", "a"}, {"at.1 at.0 , , a at.1 b c", "at.1 b"}, {"at.0.1 at.1 , a , at.0 b 5", "at.0.1 b"},
		{"at.0 , a at.0 , b c", "a"}, {"at.1 put.0 a at.0 , b c", "at.1 a"}, {"put at.0 , a b c", "c"}, {"at.0 put.0 at.0 , a b + c 1", "+ c 1"}, {"at.0 , at put.0 a b + + 1 2 3", "put.0 a b"}, {"at.0 put.1 , a 1 + 1 1", "a"},
		{"+ at.0 , 2 a at.1 put.1 a 3", "5"}, {"- at.0 , 2 a put a 3", "- 2 3"}, {"at.0 , a - at.0 , 2 a put a 3", "at.0 , a - 2 3"}, {"< at at 1 + at.1 , a 1 1", "1"},
		{"at.0 put.0 put.0 a b c", "c"}, {"at.1 put.0 put.0 a b c", "at.1 a"}, {"at.1 put.0 put.1 a b c", "b"}, {"at.1.0 put.0 put.1 a b c", "at.0 b"}, {"at.0.1 put.0.0 put.0.1 a b c", "b"}, {"at.0 put.0.0 put.0 a b c", "at.0 put.0.0 put.0 a b c"}, {"at.0.1 put.0.0 put.0 a b c", "at.1 b"},
		{"at.1 at.0 put.0.0 put.0 a b c", "at.1 b"}, {"at.1 at.0 put.0 a put.1 b c", "c"}, {"at.0 at.0 put.0 a put.1 b c", "at.0 b"}, {"at.1 at at.0 at , , a 4 c", "4"},
		// The first one: without a path ahead of what it is of.
		{"at at.0 at.1 a", "at.1.0 a"}, {"at , a b", ", a b"}, {"at , a + b 1", ", a + b 1"}, {"at put.0 a b", "put.0 a b"}, {"at put , a b c", "put , a b c"}, {"put put a b + c 1", "+ c 1"}, {"put put , a d b + c 1", "put , a d + c 1"}, {"at at + 1 2", "3"},
	})
	// Many in each other, as deep as terms may be.
	simpAll(t, []simpCase{
		{"at.0 , at.0 , at.0 , + 1 2 a a a", "3"}, {"at.0 put.0 a at.0 put.0 a at.0 put.0 a b", "b"}, {"at.1 put.0 at.1 put.0 , a , b , c d 5 5", ", c d"}, {"put put put put put put put a b c d a b c d", "d"},
		{"at.0 at.1 at.1 , 5 , 6 , a 7", "a"}, {"at.0 at.0 at.0 , , , a 1 2 3", "a"}, {"put.0 put.0 put.0 put.0 put.0 put.0 put.0 a 1 2 3 4 5 6 7", "put.0 a 7"},
	})
}

// Paths that grow: up to four places; one more, and all of the term stays as it was.
func TestSimplerPathsThatGrow(t *testing.T) {
	simpAll(t, []simpCase{
		{"at.0.1 at.1.0 a", "at.1.0.0.1 a"}, {"at.0 at.0 at.0 at.0 a", "at.0.0.0.0 a"}, {"+ at.0.1.0 at.1 a + 2 3", "+ at.1.0.1.0 a 5"}, {"at.0.0.0 , at.1.1 a 5", "at.1.1.0.0 a"},
		// Too long on the way alone.
		{"at.1.0.1 at.0.0 put.0.0.1.0 a b", "at.1 b"}, {"at.1.1.1 at.0.0 put.0.0.1 a b", "at.1.1 b"}, {"at.1.0 at.0.0.0 put.0.0.0.1 a , b 5", "b"}, {"at.1.1.1 at.0.0.0 put.0.0.0.1 a b", "at.1.1 b"}, {"at.0.1.1.1 at.0.0.0 put.0.0.0.0 a b", "at.1.1.1 b"},
		{"+ + 1 2 at.1.0.1 at.0.0 put.0.0.1.0 a b", "+ 3 at.1 b"}, {"at.0.0 at.0 at.0 at.0 put.0.0.0.0 a b", "at.0 b"}, {"at.0.0.0.0 at.0 at.0 at.0 put.0.0.0.0 a b", "at.0.0.0 b"},
	})
	simpSame(t,
		"at.0.1.0 at.1.1 a", "at.0 at.0.0.0.0 a", "at.0.0.0.0 at.0 a", "at.0.0.0.0 at.0.0.0.0 a", "at.0 at.0 at.0 at.0 at.0 a", "at.1.1.1.1 at.0.0.0 put.0.0.0.0 a b", "at.1.1.1 at.0.0 put.0.0.0 a b", "at.0.1.0 , at.1.1.1 a 5",
		// With what is in its other Kids.
		"+ at.0.1.0 at.1.1 a + 2 3", "+ + 2 3 at.0.1.0 at.1.1 a", ", at.0.0.0.0 at.0 a at.0 , b c", "put.0 at.0.0.0 at.1.1 a put b c", "put.0 put b c at.0.0.0 at.1.1 a", "put.0 put.0 a 5 at.0.0.0 at.1.1 a", "put b at.0.0.0 at.1.1 a", "at at.0.0.0 at.1.1 a", "at.0 , at.0.0.0 at.1.1 a + 1 2", "at.1 , at.0.0.0.0 at.1 a b", "at.0 put.0 b at.0.0.0 at.1.1 a", "at.1 put.0 at.0.0.0 at.1.1 a b",
		// Deep in others.
		"+ 1 , at.0.0.0.0 at.1 a + 2 3", "< + 1 2 - + 3 4 , a put.0 at c at.0.1 at.0.1 at.1 b", ", , , , , at.0.0.0 at.0.0 a + 1 2 + 1 2 + 1 2 at b put c d", "- at 5 - at 5 - at 5 - at 5 - at 5 at.0.0.0 at.0.0 a")
	// The rest of a path, and what it grows by, in all lengths.
	for _, p := range termPaths() {
		for _, q := range termPaths() {
			x := atTerm(atTerm(nameTerm("a"), p...), q...)
			want := termWords(atTerm(nameTerm("a"), slices.Concat(p, q)...))
			switch {
			case len(p)+len(q) > 4:
				want = termWords(x)
			case len(p)+len(q) == 0:
				want = "a"
			}
			if got := termWords(mustSimp(t, x)); got != want {
				t.Fatalf("%q is %q", termWords(x), got)
			}
		}
	}
}

// A part by each path of what has another part by each path; both of its Kids plain, and not.
func TestSimplerPartsByAllPaths(t *testing.T) {
	a, b, sum := nameTerm("a"), nameTerm("b"), twoTerm(3, nameTerm("a"), nameTerm("b"))
	part := func(x impl.Term, path []int) impl.Term {
		if len(path) == 0 {
			return x
		}
		return atTerm(x, path...)
	}
	for _, p := range termPaths() {
		for _, q := range termPaths() {
			begins := len(p) <= len(q) && slices.Equal(p, q[:len(p)])
			for _, kids := range [][2]impl.Term{{a, b}, {a, sum}, {sum, b}, {sum, sum}} {
				x := atTerm(putTerm(kids[0], kids[1], p...), q...)
				want := x
				switch {
				case len(p) == 0 && kids[0].Kind == 2 || begins && kids[0].Kind == 2:
					want = part(kids[1], q[len(p):])
				case len(q) == 0:
					want = x.Kids[0]
				case !meet(p, q) && kids[1].Kind == 2:
					want = part(kids[0], q)
				}
				if got := mustSimp(t, x); !sameThing(got, want) {
					t.Fatalf("%q is %q, it should be %q", termWords(x), termWords(got), termWords(want))
				}
			}
		}
	}
}

// Two parts that are put one behind the other, by each path.
func TestSimplerPutsByAllPaths(t *testing.T) {
	a, b, c, sum := nameTerm("a"), nameTerm("b"), nameTerm("c"), twoTerm(3, nameTerm("a"), nameTerm("b"))
	for _, p := range termPaths() {
		for _, q := range termPaths() {
			for _, second := range terms(b, numTerm(5), sum) {
				x := putTerm(putTerm(twoTerm(6, a, a), second, p...), c, q...)
				want := x
				if slices.Equal(p, q) && second.Kind <= 2 {
					want = putTerm(twoTerm(6, a, a), c, q...)
				}
				if got := mustSimp(t, x); !sameThing(got, want) {
					t.Fatalf("%q is %q, it should be %q", termWords(x), termWords(got), termWords(want))
				}
			}
		}
	}
}

// All terms that are at most three deep, of a name, a number and few paths.
func TestAllSmallTermsMadeSimpler(t *testing.T) {
	simpler := 0
	for _, x := range termsUpTo(3) {
		if mustSimp(t, x); !stays(x) {
			simpler++
		}
	}
	if simpler < 4000 {
		t.Error("too few are made simpler:", simpler)
	}
}

// Drawn terms, up to eight deep.
func TestAnyTermsMadeSimpler(t *testing.T) {
	t.Parallel()
	count := map[string]int{}
	for _, x := range anyTerms(100000) {
		mustSimp(t, x)
		switch is := wholeWords(x); {
		case !stays(x):
			count["simpler"]++
		case is != termWords(x):
			count["stays for its paths"]++
		default:
			count["is simple"]++
		}
	}
	if count["simpler"] < 30000 || count["stays for its paths"] < 3000 || count["is simple"] < 20000 {
		t.Error("the test made too few of some kind:", count)
	}
}

// wholeWords is the words of a term that is made simpler, whatever its paths.
func wholeWords(x impl.Term) string {
	return strings.Join(fewestWords(strings.Fields(termWords(x))), " ")
}

// wrongTerms is terms that are not ok by their own names, and in what way.
func wrongTerms() map[string]impl.Term {
	a, one := nameTerm("a"), numTerm(1)
	list := map[string]impl.Term{
		"nothing": {}, "kind 0": {Num: 1}, "kind 0 with a name": {Name: "a"}, "kind 0 with Kids": {Kids: terms(a, a)}, "kind 9": {Kind: 9, Kids: terms(a, a)}, "kind -1": {Kind: -1}, "kind 11": {Kind: 11, Num: 1}, "kind 258": {Kind: 258, Name: "a"},
		"-1": numTerm(-1), "10000": numTerm(10000), "a very small number": numTerm(-1 << 63), "a very great number": numTerm(1<<63 - 1),
		"no name": nameTerm(""), "13 letters": nameTerm("abcdefghijklm"), "a blank": nameTerm("a b"), "a sign": nameTerm("a-"), "a point": nameTerm("a.b"), "a letter that is none": nameTerm("ä"), "a newline": nameTerm("a\n"), "a byte": nameTerm("\xff"), "a nought": nameTerm("\x00"), "a mark": nameTerm("'a"),
		"a number with a name": {Kind: 1, Num: 1, Name: "a"}, "a number with a path": {Kind: 1, Num: 1, Path: []int{0}}, "a number with a Kid": {Kind: 1, Num: 1, Kids: terms(a)},
		"a name with a number": {Kind: 2, Num: 1, Name: "a"}, "a name with a path": {Kind: 2, Name: "a", Path: []int{0}}, "a name with a Kid": {Kind: 2, Name: "a", Kids: terms(a)},
	}
	for kind := 3; kind <= 8; kind++ {
		kids := again(2-kind/7+kind/8, a)
		name := "kind " + strconv.Itoa(kind)
		list[name+" with a Kid more"] = impl.Term{Kind: kind, Kids: append(slices.Clone(kids), one)}
		list[name+" with a Kid less"] = impl.Term{Kind: kind, Kids: kids[1:]}
		list[name+" with no Kids"] = impl.Term{Kind: kind}
		list[name+" with a number"] = impl.Term{Kind: kind, Num: 1, Kids: kids}
		list[name+" with a name"] = impl.Term{Kind: kind, Name: "a", Kids: kids}
		for _, path := range [][]int{{2}, {-1}, {0, 2}, {0, 0, 0, -1}, {0, 1, 0, 1, 0}, make([]int, 100)} {
			list[name+" with a path of "+strconv.Itoa(len(path))+" "+strconv.Itoa(path[len(path)-1])] = impl.Term{Kind: kind, Path: path, Kids: kids}
		}
		if kind < 7 {
			list[name+" with a path"] = impl.Term{Kind: kind, Path: []int{0}, Kids: kids}
		}
	}
	return list
}

// notSimp checks that of a term nothing is told.
func notSimp(t *testing.T, what string, x impl.Term) {
	t.Helper()
	if got := impl.SimpTerm(x); !sameThing(got, impl.Term{}) {
		t.Errorf("%s is made simpler: %s", what, sketch(got))
	}
}

// Terms that are not ok by their own names, alone, and in others, also where they would be left out.
func TestWrongTermsAreNotMadeSimpler(t *testing.T) {
	a := nameTerm("a")
	for what, x := range wrongTerms() {
		if isOwnTerm(x) {
			t.Fatalf("the test takes it as wrong: %s", what)
		}
		notSimp(t, what, x)
		for _, y := range terms(twoTerm(3, x, a), twoTerm(4, a, x), twoTerm(5, x, x), twoTerm(6, a, x), atTerm(x), atTerm(x, 0), putTerm(a, x, 0), putTerm(x, a), putTerm(a, x)) {
			notSimp(t, what, y)
			notSimp(t, what, atTerm(twoTerm(6, a, y), 0))
			notSimp(t, what, atTerm(twoTerm(6, y, a), 1, 0))
		}
		notSimp(t, what, atTerm(twoTerm(6, a, x), 0))
		notSimp(t, what, atTerm(twoTerm(6, x, a), 1))
		notSimp(t, what, atTerm(putTerm(a, x, 0), 1))
		notSimp(t, what, putTerm(putTerm(a, x, 0), a, 0))
	}
}

// Terms that are just eight deep, and one deeper, of each kind.
func TestSimplerTermsAsDeepAsMayBe(t *testing.T) {
	a := nameTerm("a")
	for what, deeper := range map[string]func(impl.Term) impl.Term{
		"sums":                    func(x impl.Term) impl.Term { return twoTerm(3, x, numTerm(1)) },
		"sums of numbers":         func(x impl.Term) impl.Term { return twoTerm(3, numTerm(1), x) },
		"differences":             func(x impl.Term) impl.Term { return twoTerm(4, a, x) },
		"comparisons":             func(x impl.Term) impl.Term { return twoTerm(5, x, a) },
		"pairs":                   func(x impl.Term) impl.Term { return twoTerm(6, x, a) },
		"parts without a path":    func(x impl.Term) impl.Term { return atTerm(x) },
		"parts":                   func(x impl.Term) impl.Term { return atTerm(x, 0) },
		"other parts":             func(x impl.Term) impl.Term { return putTerm(x, a, 1) },
		"other parts of a name":   func(x impl.Term) impl.Term { return putTerm(a, x, 1) },
		"others without a path":   func(x impl.Term) impl.Term { return putTerm(a, x) },
		"another without a path":  func(x impl.Term) impl.Term { return putTerm(x, a) },
		"parts of pairs, by 0, 1": func(x impl.Term) impl.Term { return twoTerm(6, a, atTerm(x, 1)) },
	} {
		for _, x := range terms(a, numTerm(1)) {
			for deep := 1; isOwnTerm(x); deep++ {
				if got := mustSimp(t, x); sameThing(got, impl.Term{}) {
					t.Errorf("%s: nothing, at %d", what, deep)
				}
				x = deeper(x)
			}
			notSimp(t, what, x)
			notSimp(t, what, atTerm(x))
		}
	}
	sum := deepSum(8)
	if got := impl.SimpTerm(sum); !sameThing(got, numTerm(128)) {
		t.Error(sketch(got))
	}
	notSimp(t, "a sum", deepSum(9))
}

// One thing changed at a time, in terms that are ok; some then are, too.
func TestSimplerWithOneThingChanged(t *testing.T) {
	t.Parallel()
	count := map[bool]int{}
	for _, text := range []string{"at.0 , at.0.1 a + 1 2", "at.1 at.0 put.0 a put.1 5 b", "put.0.1 put.0.1 a b - 3 2", "put put a 5 < 1 2", "at.1.0.1 at.0.0 put.0.0.1.0 a b", "+ at.0.1.0 at.1.1 a + 2 3", "at at , + 9998 1 at 5"} {
		x := copyOf(termsFrom(strings.Fields(text))[0])
		changesOf(&x, func() {
			if isOwnTerm(x) {
				mustSimp(t, x)
			} else {
				notSimp(t, text, x)
			}
			count[isOwnTerm(x)]++
		})
	}
	if count[true] < 100 || count[false] < 1000 {
		t.Error("the test made too few of some kind:", count)
	}
}

// simpText is what functions of a text are made simpler as, in words.
func simpText(t *testing.T, text string) string {
	t.Helper()
	list := puresFrom(text)
	if !isPures(list) {
		t.Fatalf("the test asks for what is not ok:\n%s", text)
	}
	return impl.PureText(mustSimpFns(t, list))
}

// Each term of each kind of binding is made simpler, and what is said; nothing else.
func TestSimplerFunctions(t *testing.T) {
	for text, want := range map[string]string{
		"f\n say\n":     "f\n say\n",
		"f a b\n say\n": "f a b\n say\n",
		"f a\n say + 1 2; a; at.1 at.0 a; at a\n":                        "f a\n say 3; a; at.0.1 a; a\n",
		"U1 T1 L1\n U2 = at T1\n U2 = 5\n T1 = T1\n say U2; + 2 2; L1\n": "U1 T1 L1\n U2 = T1\n U2 = 5\n T1 = T1\n say U2; 4; L1\n",
		// Calls.
		"e\n say + 0 0\nf\n let a = e\n say put a a\n":                                                         "e\n say 0\nf\n let a = e\n say a\n",
		"e a b\n say + 1 2; a\nf a\n let x y = e + 1 2; put a at.0 a\n let y x = e at x; at.0 , x y\n say x\n": "e a b\n say 3; a\nf a\n let x y = e 3; at.0 a\n let y x = e x; x\n say x\n",
		// Choices, also by a number: they stay.
		"f a\n if - 5 4\n  say at a\n else\n  say + 1 1\n for q\n say put.0 put.0 q 1 2\n": "f a\n if 1\n  say a\n else\n  say 2\n for q\n say put.0 q 2\n",
		"f a\n if - 4 4\n  say\n else\n  say\n for\n say at.1 , a a\n":                     "f a\n if 0\n  say\n else\n  say\n for\n say a\n",
		"f a\n if at.0 , a 3\n  w = + 2 2\n  say at , w w\n else\n  if < 1 2\n   v = at at.0 a\n   say at.0 at.1 v\n  else\n   say put.0 put.0 a 1 2\n  for u\n  x = put 5 u\n  say + u + 0 1\n for q\n say at.1 , 3 q; + 9999 1\n": "f a\n if a\n  w = 4\n  say , w w\n else\n  if 1\n   v = at.0 a\n   say at.1.0 v\n  else\n   say put.0 a 2\n  for u\n  x = u\n  say + u 1\n for q\n say q; + 9999 1\n",
		"e a\n say at a\nf a\n if at 0\n  let b = e at 1\n  say at b\n else\n  let b = e at 2\n  say at.0 at.0 b\n for b\n let b = e at 3\n say at b\n":                                                                             "e a\n say a\nf a\n if 0\n  let b = e 1\n  say b\n else\n  let b = e 2\n  say at.0.0 b\n for b\n let b = e 3\n say b\n",
		// What stays for its path leaves the others.
		"f a\n x = at.0.1.0 at.1.1 a\n y = + 1 2\n say at.0.1.0 at.1.1 a; + 1 2; + at.0.1.0 at.1.1 a + 1 2\n":                                                                                       "f a\n x = at.0.1.0 at.1.1 a\n y = 3\n say at.0.1.0 at.1.1 a; 3; + at.0.1.0 at.1.1 a + 1 2\n",
		"e a b\n say\nf a\n let = e at.0.1.0 at.1.1 a; + 1 2\n let = e + 1 2; at.0.1.0 at.1.1 a\n if + at.0 at.0.0.0.0 a + 1 2\n  say at a\n else\n  say at.0 at.0.0.0.0 at a\n for b\n say at b\n": "e a b\n say\nf a\n let = e at.0.1.0 at.1.1 a; 3\n let = e 3; at.0.1.0 at.1.1 a\n if + at.0 at.0.0.0.0 a + 1 2\n  say a\n else\n  say at.0 at.0.0.0.0 at a\n for b\n say b\n",
		// What fails stays.
		"f\n a = - 0 1\n b = + 9999 + 0 1\n say - a + 1 2\n": "f\n a = - 0 1\n b = + 9999 1\n say - a 3\n",
	} {
		if got := simpText(t, text); got != want {
			t.Errorf("made simpler it is\n%sit should be\n%s", got, want)
		}
		if got := simpText(t, want); got != want {
			t.Errorf("made simpler twice it is\n%sit should be\n%s", got, want)
		}
	}
	for _, list := range [][]impl.Pure{nil, {}, make([]impl.Pure, 0, 3)} {
		if got := impl.SimpOf(list); len(got) > 0 || impl.SimpSize(list) != 0 {
			t.Error("no functions are made simpler as", got)
		}
	}
}

// How many terms there are.
func TestSimpSize(t *testing.T) {
	for text, want := range map[string]int{
		"":                                       0,
		"f\n say\n":                              0,
		"f a b c\n say\n":                        0,
		"f a\n say a\n":                          1,
		"f a\n say 5; a\n":                       2,
		"f a\n say + a 1\n":                      3,
		"f a\n say - a 1; < a 1; , a 1\n":        9,
		"f a\n say at a\n":                       2,
		"f a\n say at.0.1 a\n":                   2,
		"f a\n say put a a; put.1 a 5\n":         6,
		"f a\n say at.0 put.1 , a + a 1 5\n":     8,
		"f a\n b = a\n say\n":                    1,
		"f a\n b = at.0 a\n c = + b 1\n say b\n": 6,
		"e\n say\nf\n let = e\n say\n":           0,
		"e a b\n say 1\nf a\n let x = e a; + a 1\n let x = e 1; 2\n say\n":           7,
		"f a\n if a\n  say\n else\n  say\n for\n say\n":                              1,
		"f a\n if < a 1\n  say\n else\n  say\n for\n say\n":                          3,
		"f a\n if a\n  b = 1\n  say a; b\n else\n  say a; + a 1\n for x y\n say x\n": 9,
		"f a\n if a\n  say 1\n else\n  c = , a a\n  say c\n for x\n say\n":           6,
		"f a\n if a\n  if a\n   say at a\n  else\n   b = a\n   say b\n  for x\n  say x\n else\n  if at a\n   say 1\n  else\n   say 2\n  for x\n  say x\n for x\n say at x\n": 14,
		"e\n say 1\nf\n say 2\ng\n a = , 1 2\n say\nh\n say\n": 5,
	} {
		list := puresFrom(text)
		mustSimpFns(t, list)
		if got := impl.SimpSize(list); got != want {
			t.Errorf("%d, not %d, in\n%s", got, want, text)
		}
	}
	// As many as there may be in a body: 400 bindings, and 60 terms that are said, each of 255.
	sum := deepSum(8)
	body := saying(again(60, sum), again(400, bindTerm("x", sum))...)
	list := []impl.Pure{pure("f", "", body), pure("g", "", saying(nil, bindIf(again(60, "")[:0], sum, impl.Body{Binds: body.Binds}, impl.Body{Binds: body.Binds})))}
	if got := impl.SimpSize(list); got != 460*255+255+800*255 {
		t.Error(got)
	}
	if got := impl.SimpSize(impl.SimpOf(list)); got != 460+1+800 {
		t.Error("made simpler there are", got)
	}
}

// notSimpler checks that of functions nothing is told.
func notSimpler(t *testing.T, what string, list []impl.Pure) {
	t.Helper()
	if got := impl.SimpOf(list); len(got) > 0 {
		t.Errorf("%s: made simpler as\n%.500s", what, impl.PureText(got))
	}
	if got := impl.SimpSize(list); got != -1 {
		t.Errorf("%s: there are %d terms", what, got)
	}
}

// Functions that are not ok, by hand, also beside such that are.
func TestWhatIsNotOkIsNotMadeSimpler(t *testing.T) {
	for _, text := range pureWrong {
		list := puresFrom(text)
		notSimpler(t, text, list)
		notSimpler(t, text+"behind", append(slices.Clone(list), pure("zz", "", impl.Body{})))
		if !strings.Contains(text, "zz") {
			notSimpler(t, text+"ahead", append([]impl.Pure{pure("zz", "a", saying(terms(nameTerm("a"))))}, list...))
		}
	}
	notSimpler(t, "no name", []impl.Pure{{}})
	for what, x := range wrongTerms() {
		for where, list := range withTerm(x) {
			notSimpler(t, what+" "+where, list)
		}
	}
	for where, list := range withTerm(nameTerm("zz")) {
		notSimpler(t, "a name that is not bound "+where, list)
	}
	for where, list := range withTerm(atTerm(twoTerm(6, nameTerm("a"), nameTerm("zz")), 0)) {
		notSimpler(t, "a name that is not bound, and would be left out "+where, list)
	}
}

// One thing changed at a time, in functions that are ok; most then are not.
func TestSimplerFunctionsWithOneThingChanged(t *testing.T) {
	t.Parallel()
	turn, count := 0, map[bool]int{}
	for _, text := range pureSamples {
		list := copyOf(puresFrom(text))
		changesOf(&list, func() {
			if turn++; turn%5 != 0 {
				return
			}
			mustSimpFns(t, list)
			count[impl.PureOk(list)]++
		})
	}
	if count[true] < 300 || count[false] < 1000 {
		t.Error("the test made too few of some kind:", count)
	}
}

// What is at a limit is made simpler; what is one above is not.
func TestSimplerAtTheLimits(t *testing.T) {
	a, sum := nameTerm("a"), twoTerm(3, numTerm(1), numTerm(2))
	deep := func(n int) impl.Body {
		body := saying(terms(sum), bindTerm("a", sum))
		for range n - 1 {
			body = saying(terms(sum), bindIf([]string{"a"}, sum, body, saying(terms(sum))))
		}
		return body
	}
	funcs := func(n int) []impl.Pure {
		var list []impl.Pure
		for at := range n {
			list = append(list, pure("f"+strconv.Itoa(at), "a", saying(terms(atTerm(a), sum))))
		}
		return list
	}
	one := func(body impl.Body) []impl.Pure { return []impl.Pure{pure("f", "a", body)} }
	for _, c := range []struct {
		what string
		at   []impl.Pure
		over []impl.Pure
		size int
	}{
		{"functions", funcs(10), funcs(11), 20},
		{"Params", []impl.Pure{{Name: "f", Params: numbered(60)}}, []impl.Pure{{Name: "f", Params: numbered(61)}}, 0},
		{"bindings", one(saying(nil, again(400, bindTerm("a", sum))...)), one(saying(nil, again(401, bindTerm("a", sum))...)), 400},
		{"bodies", one(deep(6)), one(deep(7)), 17},
		{"what is said", one(saying(again(60, sum))), one(saying(again(61, sum))), 60},
		{"terms", one(saying(terms(deepSum(8)))), one(saying(terms(deepSum(9)))), 1},
		{"paths", one(saying(terms(atTerm(a, 0, 1, 0, 1)))), one(saying(terms(atTerm(a, 0, 1, 0, 1, 0)))), 2},
		{"numbers", one(saying(terms(numTerm(9999)))), one(saying(terms(numTerm(10000)))), 1},
	} {
		got := mustSimpFns(t, c.at)
		if len(got) != len(c.at) || impl.SimpSize(got) != c.size {
			t.Errorf("%s: there are %d functions of %d terms", c.what, len(got), impl.SimpSize(got))
		}
		mustSimpFns(t, c.over)
		notSimpler(t, c.what, c.over)
	}
}
