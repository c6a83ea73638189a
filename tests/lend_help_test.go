package tests

import (
	"math"
	"slices"
	"strings"
	"testing"

	"loop.example/handfast/impl"
)

// What is lent, said once more in another way: places by their texts, and what ends by what happened, once with that use and once without.

var placeLine = rule(placeRule)

// placesMeet is what LendMeet should answer: one text begins with the other, step by step.
func placesMeet(a impl.Place, b impl.Place) bool {
	first, second := placeText(a), placeText(b)
	if !placeLine.MatchString(first) || !placeLine.MatchString(second) {
		return false
	}
	return strings.HasPrefix(first+".", second+".") || strings.HasPrefix(second+".", first+".")
}

// lendsOf is what LendOf should answer of a program that is fine, and a place and a number that are there.
func lendsOf(p impl.Prog, at int, n int) []impl.Lend {
	h := behindStmts(p, at, n)
	var list []impl.Lend
	for _, x := range h.rows {
		if x.lent && !x.param && !x.nowhere && !h.ended(x.name) {
			list = append(list, impl.Lend{Name: x.name, Places: x.from})
		}
	}
	return list
}

// endsOf is likewise what LendEnds should answer.
func endsOf(p impl.Prog, at int, n int, place impl.Place) []string {
	if !placeLine.MatchString(placeText(place)) {
		return nil
	}
	h := behindStmts(p, at, n)
	if !canUse(h, place) {
		return nil
	}
	var list []string
	for _, name := range liveOf(p, at, n) {
		if h.ended(name) {
			list = append(list, name)
		}
	}
	slices.Reverse(list)
	return list
}

// canUse uses a place, if it may be used.
func canUse(h *history, place impl.Place) (ok bool) {
	defer func() {
		if recover() != nil {
			ok = false
		}
	}()
	h.use(place)
	return true
}

// lendsText tells what is lent in words: a name, and the places that it is lent from, each.
func lendsText(list []impl.Lend) string {
	var words []string
	for _, x := range list {
		text := x.Name + ":"
		for _, p := range x.Places {
			text += " " + placeText(p)
		}
		words = append(words, text)
	}
	return strings.Join(words, "; ")
}

// placeFrom is the place of a text, as it is written in programs.
func placeFrom(text string) impl.Place {
	words := strings.Split(text, ".")
	p := impl.Place{Name: words[0]}
	for _, word := range words[1:] {
		p.Path = append(p.Path, int(word[0]-'0'))
	}
	return p
}

func mustLends(t *testing.T, p impl.Prog, at int, n int, want string) {
	t.Helper()
	if got := lendsText(impl.LendOf(p, at, n)); got != want {
		t.Errorf("LendOf %d behind %d is %q, not %q, of\n%s", at, n, got, want, textOf(p))
	}
}

func mustEnds(t *testing.T, p impl.Prog, at int, n int, place impl.Place, want ...string) {
	t.Helper()
	if got := impl.LendEnds(p, at, n, place); !slices.Equal(got, want) {
		t.Errorf("LendEnds %d behind %d by %s is %q, not %q, of\n%s", at, n, placeText(place), got, want, textOf(p))
	}
}

// allNames is the names of a function, those that were given in choices, and that will be given, too, and one that is none.
func allNames(fn impl.Fn) []string {
	list := []string{"zz"}
	for _, param := range fn.Params {
		list = append(list, param.Name)
	}
	return append(list, rowNames(fn.Body)...)
}

func rowNames(row []impl.Stmt) []string {
	var list []string
	for _, s := range row {
		if s.Name != "" {
			list = append(list, s.Name)
		}
		list = append(list, rowNames(s.Then)...)
		list = append(list, rowNames(s.Else)...)
	}
	return list
}

// shortPaths is all paths that parts of the types of likelyProgs have, and some that no part has.
func shortPaths() [][]int {
	var list [][]int
	for size := 0; size <= 2; size++ {
		list = append(list, pathsOf(size, []int{0, 1})...)
	}
	return append(list, []int{0, 0, 0}, []int{1, 0, 1}, []int{0, 1, 1, 0})
}

// placesOf is places in form of all names of a function.
func placesOf(fn impl.Fn) []impl.Place {
	var list []impl.Place
	for _, name := range allNames(fn) {
		for _, path := range shortPaths() {
			list = append(list, impl.Place{Name: name, Path: path})
		}
	}
	return list
}

// eachPlace tells of each function of a program, each number of its statements, and each place of its names.
func eachPlace(p impl.Prog, tell func(at int, n int, place impl.Place)) {
	eachBehind(p, func(at int, n int) {
		for _, place := range placesOf(p.Fns[at]) {
			tell(at, n, place)
		}
	})
}

// formlessPlaces is places that are not in form, of names, and parts, of which there are such.
func formlessPlaces() []impl.Place {
	var list []impl.Place
	for _, name := range []string{"", "P", "abcdefg", "p1", "p.0", "p ", " p", "p\n", "`", "{", "ä", "\x00", "\xff", "p\x00", strings.Repeat("p", 1<<16)} {
		list = append(list, place(name), place(name, 0), place(name, 1, 0))
	}
	for _, path := range [][]int{{2}, {-1}, {0, 2}, {2, 0}, {1, -1, 0}, {0, 0, 0, 7}, {math.MinInt}, {0, math.MaxInt}, {0, 0, 0, 0, 0}, {0, 1, 0, 1, 0, 1}, {1, 1, 1, 1, 2}, make([]int, 1<<16)} {
		list = append(list, impl.Place{Name: "p", Path: path}, impl.Place{Name: "abcdef", Path: path})
	}
	return list
}

// formPlaces is places in form, of names that begin with each other, too.
func formPlaces() []impl.Place {
	var list []impl.Place
	for _, name := range []string{"p", "q", "pp", "abcdef"} {
		for size := 0; size <= 4; size++ {
			for _, path := range pathsOf(size, []int{0, 1}) {
				list = append(list, impl.Place{Name: name, Path: path})
			}
		}
	}
	return list
}
