package tests

import (
	"fmt"
	"slices"
	"strings"
	"testing"

	"loop.example/handfast/impl"
)

// readRight checks that a text is read just if it is one, and then written as just that.
func readRight(t *testing.T, text string) {
	t.Helper()
	p, ok := impl.ProgRead(text)
	if ok != isText(text) {
		t.Fatalf("ProgRead %q: %v", text, ok)
	}
	if ok && impl.ProgWrite(p) != text {
		t.Fatalf("ProgRead %q is written %q", text, impl.ProgWrite(p))
	}
	if !ok && !sameThing(p, impl.Prog{}) {
		t.Fatalf("ProgRead %q: false, and %+v", text, p)
	}
}

// A text that is cut anywhere is none, but for where a function ends.
func TestTextsThatAreCut(t *testing.T) {
	t.Parallel()
	for _, p := range sampleProgs()[:70] {
		text := impl.ProgWrite(p)
		ends := []int{0}
		for n := range p.Fns {
			ends = append(ends, len(impl.ProgWrite(fns(p.Fns[:n+1]...))))
		}
		for n := range len(text) {
			got, ok := impl.ProgRead(text[:n])
			if ok != slices.Contains(ends, n) {
				t.Fatalf("ProgRead %q: %v", text[:n], ok)
			}
			if want := slices.Index(ends, n); ok && !sameThing(got, fns(p.Fns[:want]...)) {
				t.Fatalf("ProgRead %q: %+v", text[:n], got)
			}
		}
	}
}

// What is left of a text behind a cut is one again just behind a function, or where `fn` happens to be a name.
func TestTextsThatAreCutAhead(t *testing.T) {
	for _, s := range samples() {
		for n := range len(s.text) {
			readRight(t, s.text[n:])
		}
	}
}

// P16: a text with one byte less, more, or another one.
func TestTextsWithAnotherByte(t *testing.T) {
	for _, s := range samples() {
		for n := range len(s.text) + 1 {
			for _, b := range []string{"", " ", "\n", "0", "1", "2", "9", "a", "i", "z", "A", ".", ",", "@", "+", "-", "<", "(", ")", "\t", "\r", "\x00", "\x80", "ä"} {
				readRight(t, s.text[:n]+b+s.text[n:])
				if n < len(s.text) {
					readRight(t, s.text[:n]+b+s.text[n+1:])
				}
			}
		}
	}
}

// turns is all lists with one thing left out, doubled, or put at another place.
func turns(list []string) [][]string {
	var all [][]string
	for n, x := range list {
		without := slices.Delete(slices.Clone(list), n, n+1)
		all = append(all, without, slices.Insert(slices.Clone(list), n, x))
		for m := range without {
			all = append(all, slices.Insert(slices.Clone(without), m, x))
		}
	}
	return all
}

func TestTextsWithOtherLines(t *testing.T) {
	t.Parallel()
	for _, p := range append(sampleProgs()[:25], anyProgs(40)...) {
		lines := strings.SplitAfter(impl.ProgWrite(p), "\n")
		if len(lines) > 40 {
			continue
		}
		for _, other := range turns(lines) {
			readRight(t, strings.Join(other, ""))
		}
		for n := range lines {
			for _, line := range []string{"\n", " \n", "else\n", "end\n", "if 1\n", "let x 1\n", "fn f\n", "has p i\n", "lent p i\n", "says i 0\n", "gives i p\n", "lend x y\n", "wend\n", "i\n"} {
				readRight(t, strings.Join(slices.Insert(slices.Clone(lines), n, line), ""))
			}
		}
	}
}

func TestTextsWithOtherWords(t *testing.T) {
	for _, s := range samples() {
		lines := strings.SplitAfter(s.text, "\n")
		for n, line := range lines {
			others := turns(strings.Split(strings.TrimSuffix(line, "\n"), " "))
			for _, words := range others {
				other := slices.Clone(lines)
				other[n] = strings.Join(words, " ") + "\n"
				readRight(t, strings.Join(other, ""))
			}
		}
	}
}

// Numbers are 0 to 9999 in decimals without needless zeros; all other words are none.
func TestWordsThatAreNoNumbers(t *testing.T) {
	texts := []string{
		"fn f\nsays i #\n", "fn f\nlet x #\nsays i 0\n", "fn f\nset p.0 + # 1\nsays i 0\n", "fn f\nset p.0 + 1 #\nsays i 0\n", "fn f\nif #\nelse\nend\nsays i 0\n",
		"fn f\npick x p q #\nsays i 0\n", "fn f\ncall x g of #\nsays i 0\n", "fn f\ncall x g of # to p\nsays i 0\n", "fn f\nif 1\nelse\nif < # 2\nelse\nend\nend\nsays i 0\n",
	}
	for _, text := range texts {
		for _, word := range []string{"0", "1", "7", "10", "99", "100", "9999", "@a", "@a.0"} {
			if _, ok := impl.ProgRead(strings.ReplaceAll(text, "#", word)); !ok {
				t.Errorf("%q with %q is refused", text, word)
			}
		}
		for _, word := range []string{"", "00", "01", "007", "0000", "09999", "+1", "-1", "-0", "+0", "--1", "10000", "99999", "18446744073709551616", "18446744073709551617", "9223372036854775808", "-9223372036854775808", "1.0", "1.", ".1", "1e3", "1_000", "0x1", "0b1", "0o7", "x", "a", "1a", "a1", " 1", "1 ", "1\t", "1\r", "\t1", "١", "１", "½", "@", "@@a", "@a@", "@1", "@.0", "@a.", "@a..0", "@a.2", "@a.00", "@a.01", "@a.-0", "@a.+1", "@a.0.", "@a.a", "@a.10", "@A", "a.0", "@abcdefg", "@a.0.0.0.0.0", "+", "-", "<", ",", "*", "/", "+1 2", "1+2", "+ 1", "1 2", "(1,2)", ", 1", ",1 2", ", 1,2", "i", "()", "\x00", "1\x00", "\xff"} {
			refused(t, strings.ReplaceAll(text, "#", word))
		}
	}
}

func TestWrongTypeWords(t *testing.T) {
	for _, text := range []string{"fn f\nsays # 0\n", "fn f\ngives # p\n", "fn f\nhas p #\nsays i 0\n", "fn f\nlent p #\nsays i 0\n"} {
		for _, word := range []string{"i", "(i,i)", "((i,i),i)", "(i,(i,(i,i)))", "(((i,i),(i,i)),((i,i),(i,i)))"} {
			if _, ok := impl.ProgRead(strings.ReplaceAll(text, "#", word)); !ok {
				t.Errorf("%q with %q is refused", text, word)
			}
		}
		for _, word := range []string{"", "j", "I", "ii", "i i", "()", "(i)", "(i,)", "(,i)", "(i,i", "i,i)", "(i,i))", "((i,i)", "(i,i,i)", "(i i)", "(i, i)", "( i,i)", "(i;i)", "[i,i]", "(i,j)", "(j,i)", "(i,i)i", "i(i,i)", "(i,i)(i,i)", "(((((i,i),i),i),i)", "(i,(i,(i,(i,i))))", "((((i,i),i),i),i)", "((((i,i),(i,i)),((i,i),(i,i))),i)", "0", "1", "(1,1)", ",", "(", ")", "((((((((", strings.Repeat("(", 5000), "\xff"} {
			refused(t, strings.ReplaceAll(text, "#", word))
		}
	}
}

// One blank is between words, none ahead, none behind; one newline is behind each line, and there are no other lines.
func TestWrongTexts(t *testing.T) {
	for _, text := range []string{
		"fn f\nsays i 0",
		"fn f\nsays i 0\n\n",
		"\nfn f\nsays i 0\n",
		"\n",
		" ",
		"\n\n",
		"fn f\n\nsays i 0\n",
		"fn f\r\nsays i 0\r\n",
		"fn f says i 0\n",
		"fn f\nsays i 0 \n",
		"fn f\n says i 0\n",
		"fn f\nsays  i 0\n",
		"fn f\nsays i  0\n",
		"fn f\nsaysi 0\n",
		"fn f\nsays i0\n",
		"fn f \nsays i 0\n",
		" fn f\nsays i 0\n",
		"fn  f\nsays i 0\n",
		"fn\tf\nsays i 0\n",
		"fnf\nsays i 0\n",
		"fn\nsays i 0\n",
		"fn \nsays i 0\n",
		"fn f g\nsays i 0\n",
		"Fn f\nsays i 0\n",
		"f\nsays i 0\n",
		"says i 0\n",
		"let x 1\n",
		"fn f\n",
		"fn f\nlet x 1\n",
		"fn f\nhas p i\n",
		"fn f\nfn g\nsays i 0\n",
		"fn f\nlet x 1\nfn g\nsays i 0\n",
		"fn f\nsays i 0\nsays i 0\n",
		"fn f\nsays i 0\nlet x 1\n",
		"fn f\nsays i 0\nlet x 1\nfn g\nsays i 0\n",
		"fn f\nsays i 0\nhas p i\n",
		"fn f\nsays i 0\nend\n",
		"fn f\nsays i 0\nelse\n",
		"fn f\nsays i 0\ngives i p\n",
		"fn f\ngives i p\nsays i 0\n",
		"fn f\nsays i 0\nx\n",
		"fn f\nsays i 0\nfn g\n",
		"fn f\nsays 0\n",
		"fn f\nsays i\n",
		"fn f\nsays 0 i\n",
		"fn f\nsays i 0 0\n",
		"fn f\nsays i p\n",
		"fn f\nsays i 1 + 2\n",
		"fn f\nsays i + 1 2 3\n",
		"fn f\nsays i + 1\n",
		"fn f\nsays i +\n",
		"fn f\nsays i , + 1 2\n",
		"fn f\ngives i\n",
		"fn f\ngives p\n",
		"fn f\ngives i 0\n",
		"fn f\ngives i @p\n",
		"fn f\ngives i p q\n",
		"fn f\ngives i p.2\n",
		"fn f\ngives i p.\n",
		"fn f\nsay i 0\n",
		"fn f\nhas p\nsays i 0\n",
		"fn f\nhas i\nsays i 0\n",
		"fn f\nhas p i i\nsays i 0\n",
		"fn f\nhas p.0 i\nsays i 0\n",
		"fn f\nlent  p i\nsays i 0\n",
		"fn f\nhad p i\nsays i 0\n",
		"fn f\nlet x 1\nhas p i\nsays i 0\n",
		"fn f\nhas a i\nhas b i\nhas c i\nlent d i\nlent e i\nsays i 0\n",
		"fn f\nif 1\nhas p i\nelse\nend\nsays i 0\n",
		"fn f\nlet x\nsays i 0\n",
		"fn f\nlet x 1 2\nsays i 0\n",
		"fn f\nlet 1 x\nsays i 0\n",
		"fn f\nlet x y\nsays i 0\n",
		"fn f\nlet x.0 1\nsays i 0\n",
		"fn f\nlet @x 1\nsays i 0\n",
		"fn f\nlend x\nsays i 0\n",
		"fn f\nlend x 1\nsays i 0\n",
		"fn f\nlend x @p\nsays i 0\n",
		"fn f\nlend x p q\nsays i 0\n",
		"fn f\nlend x.0 p\nsays i 0\n",
		"fn f\nset p\nsays i 0\n",
		"fn f\nset 1 p\nsays i 0\n",
		"fn f\nset p 1 1\nsays i 0\n",
		"fn f\nset p q\nsays i 0\n",
		"fn f\ncall x\nsays i 0\n",
		"fn f\ncall x \nsays i 0\n",
		"fn f\ncall x g \nsays i 0\n",
		"fn f\ncall x g.0\nsays i 0\n",
		"fn f\ncall x g p\nsays i 0\n",
		"fn f\ncall x g 1\nsays i 0\n",
		"fn f\ncall x g to\nsays i 0\n",
		"fn f\ncall x g of\nsays i 0\n",
		"fn f\ncall x g to 1\nsays i 0\n",
		"fn f\ncall x g to @p\nsays i 0\n",
		"fn f\ncall x g of p\nsays i 0\n",
		"fn f\ncall x g by 1\nsays i 0\n",
		"fn f\ncall x g to p q\nsays i 0\n",
		"fn f\ncall x g of 1 2\nsays i 0\n",
		"fn f\ncall x g to p of\nsays i 0\n",
		"fn f\ncall x g to p  of 1\nsays i 0\n",
		"fn f\ncall x g to of 1\nsays i 0\n",
		"fn f\ncall x g to a to b to c to d to e\nsays i 0\n",
		"fn f\npick x p\nsays i 0\n",
		"fn f\npick x p q\nsays i 0\n",
		"fn f\npick x p 1\nsays i 0\n",
		"fn f\npick x p q r 1\nsays i 0\n",
		"fn f\npick x p @q 1\nsays i 0\n",
		"fn f\npick x p q 1 1\nsays i 0\n",
		"fn f\nif 1\nend\nsays i 0\n",
		"fn f\nif 1\nelse\nsays i 0\n",
		"fn f\nif 1\nsays i 0\n",
		"fn f\nif 1\nelse\nelse\nend\nsays i 0\n",
		"fn f\nif 1\nelse\nend\nend\nsays i 0\n",
		"fn f\nif 1\nelse\nend\nelse\nsays i 0\n",
		"fn f\nif 1\nend\nelse\nsays i 0\n",
		"fn f\nif\nelse\nend\nsays i 0\n",
		"fn f\nif 1 2\nelse\nend\nsays i 0\n",
		"fn f\nif 1\nelse 2\nend\nsays i 0\n",
		"fn f\nif 1\nelse\nend 1\nsays i 0\n",
		"fn f\nif 1\nelse \nend\nsays i 0\n",
		"fn f\nif 1\nelse\nend \nsays i 0\n",
		"fn f\nif 1\nx\nelse\nend\nsays i 0\n",
		"fn f\nelse\nsays i 0\n",
		"fn f\nend\nsays i 0\n",
		"fn f\nif 1\nif 2\nelse\nend\nsays i 0\n",
		"fn f\nif 1\nif 2\nelse\nend\nelse\nsays i 0\n",
		"fn f\nif 1\nif 2\nend\nelse\nend\nsays i 0\n",
		"fn f\nif 1\nelse\nif 2\nelse\nend\nsays i 0\n",
		"fn f\nif 1\nelse\nif 2\nend\nend\nsays i 0\n",
		"fn f\nif 1\nelse\nsays i 0\nend\n",
		"fn f\nif 1\nsays i 0\nelse\nend\nsays i 0\n",
		"fn f\nif 1\nfn g\nsays i 0\nelse\nend\nsays i 0\n",
		"fn f\nif 1\nelse\nend\n",
		"fn a\nsays i 0\nfn b\nsays i 0\nfn c\nsays i 0\nfn d\nsays i 0\nfn e\nsays i 0\nfn f\nsays i 0\n",
		"fn f\nsays i 0\n\x00",
		"\xef\xbb\xbffn f\nsays i 0\n",
		"fn f\nsays i 0\nfn F\nsays i 0\n",
		"fn f\nsays i 0\nfn g\nsays i 0",
	} {
		refused(t, text)
		if isText(text) {
			t.Errorf("the tests' own rules take %q", text)
		}
	}
}

// Texts of choices that are missing an `else` or an `end` are none, whichever it is.
func TestChoicesThatDoNotEnd(t *testing.T) {
	inner := "if 2\nlet a 1\nelse\nlet b 1\nend\n"
	for _, text := range []string{
		"fn f\nif 1\n" + inner + "else\n" + inner + "end\nsays i 0\n",
		"fn f\nif 1\nif 3\n" + inner + "else\nend\nelse\nend\nsays i 0\n",
		"fn f\n" + inner + inner + "gives i p\n",
	} {
		mustRead(t, text)
		lines := strings.SplitAfter(text, "\n")
		for n, line := range lines {
			if line == "else\n" || line == "end\n" || strings.HasPrefix(line, "if") {
				refused(t, strings.Join(slices.Delete(slices.Clone(lines), n, n+1), ""))
				refused(t, strings.Join(slices.Insert(slices.Clone(lines), n, line), ""))
			}
			if line == "else\n" || line == "end\n" {
				other := slices.Clone(lines)
				other[n] = map[string]string{"else\n": "end\n", "end\n": "else\n"}[line]
				refused(t, strings.Join(other, ""))
			}
		}
	}
}

// P17, as it is read: two texts together are the text of the functions of both, if that is not too many, nor too long.
func TestTextsTogether(t *testing.T) {
	progs := sampleProgs()[:120]
	for n, a := range progs {
		b := progs[(n*7+3)%len(progs)]
		text := impl.ProgWrite(a) + impl.ProgWrite(b)
		p, ok := impl.ProgRead(text)
		if want := len(a.Fns)+len(b.Fns) <= 5 && len(text) <= 6000; ok != want {
			t.Fatalf("%q: %v", text, ok)
		}
		if ok && !sameThing(p, fns(append(slices.Clone(a.Fns), b.Fns...)...)) {
			t.Fatalf("%q: %+v", text, p)
		}
	}
}

// hugeTexts is texts that are far too long, or nest far too deep.
func hugeTexts() []string {
	var list []string
	for _, part := range []string{"(", "+ ", "if 1\n", "if 1\nelse\n", "fn f\n", "fn f\nsays i 0\n", "let x 1\n", "@", ".0", " ", "\n", "a", "9", "to p ", "\xff"} {
		for _, head := range []string{"", "fn f\n", "fn f\nsays ", "fn f\nsays i ", "fn f\nlet x ", "fn f\ncall x g ", "fn f\nlend x p", "fn f\nhas p "} {
			for _, size := range []int{5900, 100000} {
				list = append(list, head+strings.Repeat(part, size/len(part)))
			}
		}
	}
	deep := 3000000
	return append(list, "fn f\n"+strings.Repeat("if 1\n", deep), "fn f\nsays i "+strings.Repeat("+ ", deep), "fn f\nsays "+strings.Repeat("(", deep), strings.Repeat("fn f\nsays i 0\n", deep))
}

func TestHugeTexts(t *testing.T) {
	for n, text := range hugeTexts() {
		if p, ok := impl.ProgRead(text); ok || !sameThing(p, impl.Prog{}) {
			t.Error(fmt.Sprint("text ", n, " is read"))
		}
	}
}
