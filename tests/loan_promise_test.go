package tests

import (
	"math/rand"
	"slices"
	"testing"

	"loop.example/handfast/impl"
)

// P58: who is fine never uses what has ended, whatever it is given.
func TestP58NothingIsUsedThatHasEnded(t *testing.T) {
	count := counter{}
	lends := 0
	eachRun(t, 1000, func(p impl.Prog, at int, args []impl.Val, through []impl.Val) {
		want, late := watchedOf(p, at, args, through)
		if late {
			t.Fatalf("the tests' own rules: run %d with %v uses what has ended, in\n%s", at, args, textOf(p))
		}
		count[want.Code]++
		if want.Code == 0 && lentAndUsed(p, at, args) {
			lends++
		}
		mustWatch(t, p, at, args, through, want)
	})
	count.enough(t, 3000, 300)
	if lends < 300 {
		t.Error("the test made too few runs in which what was lent from is used behind that:", lends)
	}
}

// lentAndUsed says whether a run uses what it lends from, once it has used what is lent: a watch that forgets what a grip is from would tell true of these.
func lentAndUsed(p impl.Prog, at int, args []impl.Val) bool {
	f := frame{store: &store{nums: map[string]int{}}, diary: &diary{}, prog: p}
	var list []int
	for _, v := range args {
		list = append(list, f.owns(v))
	}
	f.runs(p.Fns[at], list)
	for n := range f.grips {
		f.grips[n].line = []int{n}
	}
	again := &diary{grips: f.grips}
	for _, x := range f.touches {
		again.touch(x.where, x.by)
	}
	return again.late
}

// P59: to watch changes nothing of what comes of a run: fine, failing or bad.
func TestP59ToWatchChangesNothing(t *testing.T) {
	t.Parallel()
	count := counter{}
	bad := 0
	eachRun(t, 500, func(p impl.Prog, at int, args []impl.Val, through []impl.Val) {
		mustWatch(t, p, at, args, through, count.run(t, p, at, args, through))
		other := [][]impl.Val{nil, through, {number(1)}, {number(10000)}, append(slices.Clone(args), number(1))}
		for _, list := range other {
			want := impl.HeapRun(p, at, list, through)
			mustWatch(t, p, at, list, through, want)
			more := impl.HeapRun(p, at, args, list)
			mustWatch(t, p, at, args, list, more)
			bad += (want.Code + more.Code) / 9
		}
		for _, where := range []int{at - len(p.Fns), at + len(p.Fns)} {
			mustWatch(t, p, where, args, through, impl.Out{Code: 9})
		}
	})
	count.enough(t, 2000, 200)
	if bad < 2000 {
		t.Error("the test made too few runs that are bad:", bad)
	}
}

// Programs by numbers that are not fine are bad, and false, whatever is wrong with them.
func TestAnyProgramThatIsNotFineIsNotWatched(t *testing.T) {
	r := rand.New(rand.NewSource(59))
	count := map[int]int{}
	for _, p := range likelyProgs(1500, 5) {
		code, _ := impl.CheckOf(p)
		if code == 0 {
			continue
		}
		count[code]++
		for at, fn := range p.Fns {
			args, through := asked(r, fn)
			mustWatch(t, p, at, args, through, impl.Out{Code: 9})
		}
	}
	for _, code := range []int{2, 3, 4, 5} {
		if count[code] < 20 {
			t.Error("the test made too few programs of code", code, count)
		}
	}
}

// called is a program with functions behind one, so many as there is room for, each of which only calls the one ahead of it.
func called(p impl.Prog, at int) impl.Prog {
	more := upTo(p, at)
	for len(more.Fns) < 5 {
		next := wrapper(more.Fns[len(more.Fns)-1])
		next.Name = []string{"za", "zb", "zc", "zd"}[len(more.Fns)-at-1]
		more = upTo(more, len(more.Fns)-1, next)
	}
	return more
}

// P60: nor is anything used that has ended by way of a function that only calls another one, nor of one that only calls that.
func TestP60ByWayOfFunctionsThatOnlyCall(t *testing.T) {
	t.Parallel()
	count := counter{}
	eachRun(t, 400, func(p impl.Prog, at int, args []impl.Val, through []impl.Val) {
		more := called(p, at)
		want := count.run(t, p, at, args, through)
		for last := at; last < len(more.Fns); last++ {
			mustCheck(t, more, 0, 0)
			mustWatch(t, more, last, args, through, want)
		}
	})
	count.enough(t, 1000, 100)
}

// By such a function a place is given out; the caller writes through it, by a name that is lent from it, and then all that was lent to it.
func TestP60PlacesThatAreGivenOut(t *testing.T) {
	t.Parallel()
	count := counter{}
	eachRun(t, 600, func(p impl.Prog, at int, args []impl.Val, through []impl.Val) {
		if at == 4 || !p.Fns[at].Lent {
			return
		}
		fn := p.Fns[at]
		body := stmts(callOf("zz", fn), lend("zy", place("zz")), set(place("zy"), exprOf(through[0])), set(place("zz"), read("zy")))
		for _, param := range fn.Params {
			body = append(body, set(impl.Place{Name: param.Name}, impl.Expr{Kind: 2, Place: impl.Place{Name: param.Name}}))
		}
		more := upTo(p, at, says("zz", fn.Params, body, numberType, num(0)))
		mustCheck(t, more, 0, 0)
		want := count.run(t, p, at, args, through)
		want.Val = impl.Val{}
		mustWatch(t, more, at+1, args, nil, want)
	})
	count.enough(t, 500, 50)
}

// P61: a function cut anywhere uses nothing that has ended, also if one more name is lent there from each that is live, and both are used.
func TestP61CutAnywhere(t *testing.T) {
	t.Parallel()
	r := rand.New(rand.NewSource(61))
	count := counter{}
	for _, p := range fineProgs(t, 250) {
		eachBehind(p, func(at int, n int) {
			args := anyVals(r, paramTypes(p.Fns[at]))
			part := cut(p, at, n)
			mustWatch(t, part, at, args, nil, count.run(t, part, at, args, nil))
			if !isLines(textOf(cut(p, at, n, again(3, let("zz", num(1)))...))) {
				return
			}
			for _, name := range impl.CheckLive(p, at, n) {
				more := cut(p, at, n, lend("zz", place(name)), set(place("zz"), read("zz")), set(place(name), read(name)))
				mustCheck(t, more, 0, 0)
				mustWatch(t, more, at, args, nil, count.run(t, part, at, args, nil))
			}
		})
	}
	count.enough(t, 2000, 200)
}

// P62: one more place that is lent, and not used, does not matter to who watches.
func TestP62OneMorePlaceThatIsLent(t *testing.T) {
	r := rand.New(rand.NewSource(62))
	types := typesUpTo(4)
	count := counter{}
	eachRun(t, 400, func(p impl.Prog, at int, args []impl.Val, through []impl.Val) {
		params := p.Fns[at].Params
		if len(params) == 4 {
			return
		}
		want := count.run(t, p, at, args, through)
		kind := types[r.Intn(len(types))]
		v := anyVals(r, []impl.Type{kind})[0]
		for n := range len(params) + 1 {
			more := changed(p, at, func(fn *impl.Fn) { fn.Params = slices.Insert(fn.Params, n, lent("zz", kind)) })
			left := want
			if want.Code == 0 {
				ahead := len(lentTypes(impl.Fn{Params: params[:n]}))
				left.Lent = slices.Insert(slices.Clone(want.Lent), ahead, v)
			}
			mustWatch(t, more, at, slices.Insert(slices.Clone(args), n, v), through, left)
		}
	})
	count.enough(t, 500, 50)
}

// The same of a call: a place of the caller is lent to it, too, and is used behind it, ahead of what was given out.
func TestP62OneMorePlaceOfACall(t *testing.T) {
	count := counter{}
	eachRun(t, 400, func(p impl.Prog, at int, args []impl.Val, through []impl.Val) {
		if at == 4 || len(p.Fns[at].Params) == 4 || p.Fns[at].Lent {
			return
		}
		more := changed(p, at, func(fn *impl.Fn) { fn.Params = append(fn.Params, lent("zz", numberType)) })
		s := callOf("zz", p.Fns[at])
		s.Args = append(s.Args, to("zx", 1))
		body := stmts(let("zx", two(6, num(1), num(2))), lend("zy", place("zx", 0)), s, set(place("zy"), num(7)), set(place("zx", 1), read("zx", 0)))
		more = upTo(more, at, says("zz", p.Fns[at].Params, body, numberType, read("zx", 1)))
		mustCheck(t, more, 0, 0)
		want := count.run(t, p, at, args, through)
		if want.Code == 0 {
			want.Val = number(7)
		}
		mustWatch(t, more, at+1, args, nil, want)
	})
	count.enough(t, 300, 20)
}
