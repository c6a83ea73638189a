package tests

import (
	"math/rand"
	"slices"
	"strconv"
	"strings"
	"testing"

	"loop.example/handfast/impl"
)

// P50: functions are ok without the last one; with the first one once more they are not.
func TestP50WithoutTheLastOne(t *testing.T) {
	r := rand.New(rand.NewSource(50))
	for range 1500 {
		list, _ := makePures(r)
		for n := range len(list) + 1 {
			if !impl.PureOk(list[:n]) {
				t.Fatalf("not ok without the last %d:\n%s", len(list)-n, puresText(list))
			}
		}
		for at := range list {
			for _, twice := range [][]impl.Pure{append(slices.Clone(list), list[at]), slices.Insert(slices.Clone(list), at, list[at])} {
				if impl.PureOk(twice) {
					t.Fatalf("ok with %s twice:\n%s", list[at].Name, puresText(list))
				}
			}
			// Nor is another one of its name.
			if impl.PureOk(append(slices.Clone(list), pure(list[at].Name, "q", impl.Body{}))) {
				t.Fatalf("ok with another %s:\n%s", list[at].Name, puresText(list))
			}
		}
	}
}

// P51: a run says as much as the function does, or nothing.
func TestP51AsMuchAsTheFunctionSays(t *testing.T) {
	count := counter{}
	eachPure(t, 1500, func(list []impl.Pure, at int, args []impl.Val) {
		vals, code := impl.PureRun(list, list[at].Name, args)
		count[code]++
		want := len(list[at].Body.Says)
		if code != 0 {
			want = 0
		}
		if len(vals) != want {
			t.Fatalf("%s says %d, not %d:\n%s", list[at].Name, len(vals), want, puresText(list))
		}
		for _, v := range vals {
			if !isOfSome(v, 4) {
				t.Fatalf("%s says %v, which is of no ok type:\n%s", list[at].Name, v, puresText(list))
			}
		}
		if vals, code := impl.PureRun(list, list[at].Name, append(args, number(1))); code != 9 || len(vals) != 0 {
			t.Fatalf("with too much it is %v %d", vals, code)
		}
	})
	count.enough(t, 2000, 500)
}

// P52: a function more behind does not matter.
func TestP52AFunctionMoreBehind(t *testing.T) {
	count := counter{}
	behind := []impl.Pure{pure("zz", "", impl.Body{}), puresFrom("zz a\n a = - 0 1\n say a; a\n")[0], puresFrom("zz a b\n if a\n  say b\n else\n  say a\n for f\n say f; f\n")[0]}
	eachPure(t, 1000, func(list []impl.Pure, at int, args []impl.Val) {
		want := count.purely(t, list, list[at].Name, args)
		for _, fn := range append(behind, wrapPure("zz", list[at])) {
			mustSay(t, append(slices.Clone(list), fn), list[at].Name, args, want)
		}
		// Nor do those that are behind already.
		mustSay(t, list[:at+1], list[at].Name, args, want)
	})
	count.enough(t, 2000, 500)
}

// P53: what is not given as asked for is HeapBad.
func TestP53NotAsAskedFor(t *testing.T) {
	t.Parallel()
	odd := oddVals()
	eachPure(t, 500, func(list []impl.Pure, at int, args []impl.Val) {
		name := list[at].Name
		for _, more := range []impl.Val{number(0), number(9999), pairVal(number(1), number(2))} {
			mustSay(t, list, name, append(slices.Clone(args), more), "bad")
			mustSay(t, list, name, append([]impl.Val{more}, args...), "bad")
		}
		for n, v := range args {
			mustSay(t, list, name, slices.Delete(slices.Clone(args), n, n+1), "bad")
			wrong := append(slices.Clone(odd), impl.Val{Num: v.Num - 10000, Kids: v.Kids}, impl.Val{Num: v.Num + 10000, Kids: v.Kids}, impl.Val{Kids: again(3, v)}, impl.Val{Kids: again(1, v)}, pairVal(v, number(-1)))
			for _, w := range wrong {
				other := slices.Clone(args)
				other[n] = w
				mustSay(t, list, name, other, "bad")
			}
		}
		for _, other := range []string{"", name + "0", "zz", strings.ToUpper(name) + "_", " " + name} {
			mustSay(t, list, other, args, "bad")
		}
		mustSay(t, append(slices.Clone(list), list[at]), name, args, "bad")
	})
}

// P54: functions have a text just if they are ok; it begins with the first one's name.
func TestP54TextsOfFunctions(t *testing.T) {
	t.Parallel()
	r := rand.New(rand.NewSource(54))
	count := map[bool]int{}
	for range 60 {
		list, _ := makePures(r)
		list = copyOf(list)
		changesOf(&list, func() {
			if r.Intn(20) > 0 {
				return
			}
			ok, text := impl.PureOk(list), impl.PureText(list)
			count[ok]++
			switch {
			case !ok && text != "", ok && (text == "") != (len(list) == 0):
				t.Fatalf("ok: %v, but its text is %q: %+v", ok, text, list)
			case ok != isPures(list):
				t.Fatalf("ok: %v: %+v", ok, list)
			case ok && len(list) > 0 && !startsWithWord(text, list[0].Name):
				t.Fatalf("%q does not begin with %q", text, list[0].Name)
			}
		})
	}
	if count[true] < 1000 || count[false] < 10000 {
		t.Error("the test made too few of some kind:", count)
	}
}

// startsWithWord says whether a text's first word is just that.
func startsWithWord(text string, word string) bool {
	rest, ok := strings.CutPrefix(text, word)
	return ok && (strings.HasPrefix(rest, " ") || strings.HasPrefix(rest, "\n"))
}

// wrapPure is a function that only calls another one, and says what that says.
func wrapPure(name string, fn impl.Pure) impl.Pure {
	var given, said []impl.Term
	for _, param := range fn.Params {
		given = append(given, nameTerm(param))
	}
	names := numbered(len(fn.Body.Says))
	for _, name := range names {
		said = append(said, nameTerm(name))
	}
	return impl.Pure{Name: name, Params: fn.Params, Body: saying(said, bindCall(names, fn.Name, given...))}
}

// P55: to be called is to be run: a function that only calls another one says the same.
func TestP55ToBeCalledIsToBeRun(t *testing.T) {
	t.Parallel()
	count := counter{}
	eachPure(t, 1000, func(list []impl.Pure, at int, args []impl.Val) {
		want := count.purely(t, list, list[at].Name, args)
		more := append(slices.Clone(list), wrapPure("zz", list[at]))
		mustSay(t, more, "zz", args, want)
		// By way of several, as many as there may be.
		for len(more) < 10 {
			more = append(more, wrapPure("zz"+strconv.Itoa(len(more)), more[len(more)-1]))
		}
		mustSay(t, more, more[9].Name, args, want)
	})
	count.enough(t, 2000, 500)
}

// P56: to be run twice says twice the same: by two calls of PureRun, and by two calls in one function.
func TestP56ToBeRunTwice(t *testing.T) {
	t.Parallel()
	count := counter{}
	eachPure(t, 1000, func(list []impl.Pure, at int, args []impl.Val) {
		fn := list[at]
		want := count.purely(t, list, fn.Name, args)
		mustSay(t, list, fn.Name, args, want)
		twice := wrapPure("zz", fn)
		again := wrapPure("zz", fn).Body
		for n := range again.Says {
			again.Says[n].Name += "_"
			again.Binds[0].Names[n] += "_"
		}
		twice.Body.Binds, twice.Body.Says = append(twice.Body.Binds, again.Binds...), append(twice.Body.Says, again.Says...)
		if want != "fails" {
			want += strings.TrimPrefix(want, "says")
		}
		mustSay(t, append(slices.Clone(list), twice), "zz", args, want)
	})
	count.enough(t, 2000, 500)
}

// P57: what the last function says, turned about, is said turned about.
func TestP57TurnedAbout(t *testing.T) {
	t.Parallel()
	count := counter{}
	eachPure(t, 2000, func(list []impl.Pure, at int, args []impl.Val) {
		if at < len(list)-1 {
			return
		}
		vals, code := impl.PureRun(list, list[at].Name, args)
		count[code]++
		turned := copyOf(list)
		slices.Reverse(turned[at].Body.Says)
		slices.Reverse(vals)
		mustSay(t, turned, list[at].Name, args, inWords(vals, code))
	})
	count.enough(t, 1500, 300)
}
