package tests

import (
	"slices"
	"strings"
	"testing"

	"loop.example/handfast/impl"
)

// What is watched, said once more in another way: all uses of places are noted in one row, and what has ended is told from that.

// touch is a use of a place: where that lies, and which grip was used.
type touch struct {
	where string
	by    int
}

// grip is what somebody has a hold on: where, how many uses there were when it was made, and what it is from, itself last.
type grip struct {
	where string
	made  int
	line  []int
}

// diary is what happened in a run so far.
type diary struct {
	grips   []grip
	touches []touch
	late    bool
}

func (d *diary) grab(where string, from []int) int {
	n := len(d.grips)
	d.grips = append(d.grips, grip{where: where, made: len(d.touches), line: append(slices.Clone(from), n)})
	return n
}

func (d *diary) touch(where string, by int) {
	d.late = d.late || d.ended(by)
	d.touches = append(d.touches, touch{where: where, by: by})
}

// ended says whether a place that meets a grip was used since that was made, but by it, or by what is from it.
func (d *diary) ended(n int) bool {
	return slices.ContainsFunc(d.touches[d.grips[n].made:], func(x touch) bool {
		return lieTogether(x.where, d.grips[n].where) && !slices.Contains(d.grips[x.by].line, n)
	})
}

func lieTogether(a string, b string) bool {
	return strings.HasPrefix(a+".", b+".") || strings.HasPrefix(b+".", a+".")
}

// ran is what HeapRun tells; LoanRun must tell the same then, and that nothing was used that had ended.
func ran(t *testing.T, p impl.Prog, at int, args []impl.Val, through []impl.Val) impl.Out {
	t.Helper()
	out := impl.HeapRun(p, at, args, through)
	mustWatch(t, p, at, args, through, out)
	return out
}

func mustWatch(t *testing.T, p impl.Prog, at int, args []impl.Val, through []impl.Val, want impl.Out) {
	t.Helper()
	got, late := impl.LoanRun(p, at, args, through)
	if !late && sameThing(got, want) {
		return
	}
	if want.Code == 9 {
		t.Fatalf("watched, run %d %s, and tells %v, it should be bad, and false", at, outText(got), late)
	}
	t.Fatalf("watched, run %d with %v and %v %s, and tells %v, it should be: %s, and false, in\n%s", at, args, through, outText(got), late, outText(want), textOf(p))
}

// lateCase is a program that would use what has ended, as CheckOf finds it; and whether it did so, if it was run with these values, by the rules of the tests.
type lateCase struct {
	lines string
	late  bool
}

// lateLines checks functions of these lines, with p (1,2), q 3, n 4 and m (5,6): they are not fine, and therefore bad, and false.
func lateLines(t *testing.T, list []lateCase) {
	t.Helper()
	for _, c := range list {
		text := runAhead + runHead + c.lines
		if !strings.Contains(c.lines, "says") && !strings.Contains(c.lines, "gives") {
			text += "says i 0\n"
		}
		lateLast(t, text, "(1,2) 3 4 (5,6)", c.late)
	}
}

// lateLast checks a program whose last function is the one that would use what has ended.
func lateLast(t *testing.T, text string, given string, late bool) {
	t.Helper()
	p := mustRead(t, text)
	last := len(p.Fns) - 1
	mustCheck(t, p, 4, last)
	args, through := valsFrom(given), []impl.Val(nil)
	if p.Fns[last].Lent {
		through = []impl.Val{counted(p.Fns[last].Type, 7)}
	}
	for at := range p.Fns {
		mustWatch(t, p, at, args, through, impl.Out{Code: 9})
	}
	if _, got := watchedOf(p, last, args, through); got != late {
		t.Errorf("the tests' own rules: something was used that had ended: %v, not %v, in\n%s", got, late, text)
	}
}
