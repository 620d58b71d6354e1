package pred

import (
	"math/rand"
	"slices"
	"testing"

	"liquidcheck/api"
)

// P7.4

func TestSubst(t *testing.T) {
	f := app("f", x("y"), x("x"))
	p := node(api.PLe, x("x"), f)
	plus := node(api.PAdd, x("x"), integer(1))
	strange := api.Pred{Op: api.PVar, Name: "x", N: 3, Kids: preds(x("x"), x("y"))}
	for _, c := range []struct {
		what string
		p    api.Pred
		name string
		by   api.Pred
		want api.Pred
	}{
		{"a variable", x("x"), "x", integer(5), integer(5)},
		{"another variable", x("x"), "y", integer(5), x("x")},
		{"several times", p, "x", integer(5), node(api.PLe, integer(5), app("f", x("y"), integer(5)))},
		{"one time", p, "y", integer(5), node(api.PLe, x("x"), app("f", integer(5), x("x")))},
		{"by what contains the name", p, "x", plus, node(api.PLe, plus, app("f", x("y"), plus))},
		{"by what contains the other name", p, "x", f, node(api.PLe, f, app("f", x("y"), f))},
		{"by itself", p, "x", x("x"), p},
		{"by the other one", p, "x", x("y"), node(api.PLe, x("y"), app("f", x("y"), x("y")))},
		{"by the zero predicate", p, "x", none, node(api.PLe, none, app("f", x("y"), none))},
		{"a name that does not occur", p, "z", integer(5), p},
		{"no name", p, "", integer(5), p},
		{"the name of a function", p, "f", integer(5), p},
		{"the name of a hole", hole("k", x("k"), x("x")), "k", integer(5), hole("k", integer(5), x("x"))},
		{"the name of another kind", api.Pred{Op: api.PInt, Name: "x", Kids: preds(x("x"))}, "x", integer(5), api.Pred{Op: api.PInt, Name: "x", Kids: preds(integer(5))}},
		{"the name of an unknown kind", api.Pred{Op: 77, Name: "x", N: 2, Kids: preds(x("x"))}, "x", integer(5), api.Pred{Op: 77, Name: "x", N: 2, Kids: preds(integer(5))}},
		{"v", node(api.PLt, x("v"), x("v.1")), "v", integer(5), node(api.PLt, integer(5), x("v.1"))},
		{"an empty name", and(x(""), none), "", integer(5), and(integer(5), none)},
		{"names that are alike", app("f", x("x1"), x("x.1"), x("X"), x("x ")), "x", integer(5), app("f", x("x1"), x("x.1"), x("X"), x("x "))},
		{"a variable with kids and a number", not(strange), "x", integer(5), not(integer(5))},
		{"kids of another variable", not(strange), "y", integer(5), not(api.Pred{Op: api.PVar, Name: "x", N: 3, Kids: preds(x("x"), integer(5))})},
		{"by a variable with kids", not(x("y")), "y", strange, not(strange)},
		{"the zero predicate", none, "", integer(5), none},
	} {
		checkPred(t, c.what, Subst(c.p, c.name, c.by), c.want)
	}
}

func TestSubstAll(t *testing.T) {
	p := node(api.PLe, x("x"), app("f", x("y"), x("x"), x("z")))
	to := func(a, b, c api.Pred) api.Pred { return node(api.PLe, a, app("f", b, a, c)) }
	one, two, three := integer(1), integer(2), integer(3)
	for _, c := range []struct {
		what  string
		names []string
		by    []api.Pred
		want  api.Pred
	}{
		{"nothing", nil, nil, p},
		{"no names", nil, preds(one, two), p},
		{"nothing for them", []string{"x", "y"}, nil, p},
		{"all", []string{"x", "y", "z"}, preds(one, two, three), to(one, two, three)},
		{"in another order", []string{"z", "x", "y"}, preds(one, two, three), to(two, three, one)},
		{"more names", []string{"x", "y"}, preds(one), to(one, x("y"), x("z"))},
		{"more predicates", []string{"x"}, preds(one, two), to(one, x("y"), x("z"))},
		{"one that does not occur", []string{"u", "x", "f"}, preds(one, two, three), to(two, x("y"), x("z"))},
		{"swapped", []string{"x", "y"}, preds(x("y"), x("x")), to(x("y"), x("x"), x("z"))},
		{"around", []string{"x", "y", "z"}, preds(x("y"), x("z"), x("x")), to(x("y"), x("z"), x("x"))},
		{"in itself", []string{"x", "y"}, preds(p, not(x("x"))), to(p, not(x("x")), x("z"))},
		{"several times", []string{"x", "x", "y", "x"}, preds(one, two, three, one), to(one, three, x("z"))},
		{"several times, the first one by itself", []string{"x", "x"}, preds(x("x"), two), p},
		{"several times, next to each other", []string{"y", "x", "x"}, preds(one, two, three), to(two, one, x("z"))},
		{"several times, and then nothing", []string{"x", "y", "x", "z"}, preds(one, two), to(one, two, x("z"))},
		{"the first one without a predicate", []string{"y", "x", "x"}, preds(one), to(x("x"), one, x("z"))},
		{"by zero predicates", []string{"x", "y"}, preds(none, none), to(none, none, x("z"))},
	} {
		checkPred(t, c.what, SubstAll(p, c.names, c.by), c.want)
	}
}

// someNames draws names, often the same ones, and somePreds predicates.
func someNames(r *rand.Rand, most int) []string {
	var l []string
	for range r.Intn(most + 1) {
		l = append(l, pick(r, "x", "y", "z", "v", "", "f", "k", "x.1"))
	}
	return l
}

func somePreds(r *rand.Rand, most int) []api.Pred {
	var l []api.Pred
	for range r.Intn(most + 1) {
		l = append(l, anyPred(r, 1+r.Intn(3)))
	}
	return l
}

func TestSubstOfDrawnPredicates(t *testing.T) {
	other := 0
	drawn(74, func(r *rand.Rand, p api.Pred) {
		names, by := someNames(r, 5), somePreds(r, 5)
		want := expectedSubst(p, names, by)
		if got := SubstAll(p, names, by); !equal(got, want) {
			t.Fatalf("%s, %q by %s: %s", show(p), names, show(by...), show(got))
		}
		if !equal(want, p) {
			other++
		}
		if len(names) > 0 && len(by) > 0 {
			if got := Subst(p, names[0], by[0]); !equal(got, expectedSubst(p, names[:1], by[:1])) {
				t.Fatalf("%s, %q by %s: %s", show(p), names[0], show(by[0]), show(got))
			}
		}
	})
	if other < 5000 {
		t.Errorf("only %d predicates changed", other)
	}
}

// P7.5

// truthLike are predicates that are nearly true or false, but are not.
func truthLike() []api.Pred {
	return preds(
		boolean(2), boolean(-1), integer(0), integer(1), x(""), x("true"), not(none), not(yes), not(no), and(yes, yes), and(yes, no), node(api.PAnd), node(api.PBool, none), node(0, none), node(0, yes),
		api.Pred{Op: api.PBool, N: 1, Name: "x"}, api.Pred{Op: api.PBool, Name: "x"}, api.Pred{Op: api.PBool, N: 1, Kids: preds(none)}, api.Pred{N: 1}, api.Pred{Name: "x"}, api.Pred{Op: -1}, api.Pred{Op: api.PBool + 1<<32, N: 1},
	)
}

func TestAnd(t *testing.T) {
	a, b, c := x("a"), x("b"), not(x("c"))
	for _, d := range []struct {
		what string
		l    []api.Pred
		want api.Pred
	}{
		{what: "nothing", want: yes},
		{what: "true", l: preds(yes), want: yes},
		{what: "the zero predicate", l: preds(none), want: yes},
		{what: "true several times", l: preds(yes, none, other(yes), other(none)), want: yes},
		{what: "false", l: preds(no), want: no},
		{what: "one", l: preds(a), want: a},
		{what: "two", l: preds(a, b), want: and(a, b)},
		{what: "three", l: preds(a, b, c), want: and(and(a, b), c)},
		{what: "four", l: preds(c, b, a, b), want: and(and(and(c, b), a), b)},
		{what: "the same ones", l: preds(a, a, a), want: and(and(a, a), a)},
		{what: "conjunctions", l: preds(and(a, b), and(b, c)), want: and(and(a, b), and(b, c))},
		{what: "a conjunction on the right", l: preds(a, and(b, c)), want: and(a, and(b, c))},
		{what: "a conjunction of truths stays", l: preds(and(yes, none), a), want: and(and(yes, none), a)},
		{what: "a conjunction with false stays", l: preds(a, and(b, no)), want: and(a, and(b, no))},
		{what: "example 2", l: preds(yes, a, b, c), want: and(and(a, b), c)},
		{what: "false behind predicates that stay", l: preds(a, b, no), want: no},
		{what: "true behind false", l: preds(no, yes), want: no},
		{what: "false twice", l: preds(no, a, no), want: no},
		{what: "false with an empty list", l: preds(a, other(no)), want: no},
	} {
		checkPred(t, d.what, And(d.l...), d.want)
	}
	for i := range 4 {
		rest := preds(a, b, c)
		checkPred(t, "true among others", And(slices.Insert(rest, i, yes)...), and(and(a, b), c))
		checkPred(t, "the zero predicate among others", And(slices.Insert(preds(a, b, c), i, none)...), and(and(a, b), c))
		checkPred(t, "two truths among others", And(slices.Insert(preds(a, b, c), i, none, yes)...), and(and(a, b), c))
		checkPred(t, "false among others", And(slices.Insert(preds(a, b, c), i, no)...), no)
	}
	for _, p := range truthLike() {
		checkPred(t, "one that is nearly true", And(p), p)
		checkPred(t, "one that is nearly true before others", And(p, a, b), and(and(p, a), b))
		checkPred(t, "one that is nearly true behind others", And(none, a, p, yes), and(a, p))
	}
}

func TestSplit(t *testing.T) {
	a, b, c, d := x("a"), x("b"), not(x("c")), node(api.POr, x("d"), and(yes, x("a")))
	three := node(api.PAnd, a, b, c)
	for _, e := range []struct {
		what string
		p    api.Pred
		want []api.Pred
	}{
		{"true", yes, nil},
		{"true with an empty list", other(yes), nil},
		{"the zero predicate", none, nil},
		{"the zero predicate with an empty list", other(none), nil},
		{"false", no, preds(no)},
		{"one", a, preds(a)},
		{"two", and(a, b), preds(a, b)},
		{"nested on the left", and(and(and(a, b), c), d), preds(a, b, c, d)},
		{"nested on the right", and(a, and(b, and(c, d))), preds(a, b, c, d)},
		{"nested on both sides", and(and(a, b), and(c, d)), preds(a, b, c, d)},
		{"nested in the middle", and(a, and(and(b, c), d)), preds(a, b, c, d)},
		{"the same ones", and(and(a, a), and(b, a)), preds(a, a, b, a)},
		{"truths", and(and(yes, none), and(none, yes)), nil},
		{"truths among others", and(and(a, yes), and(none, and(b, yes))), preds(a, b)},
		{"false among others", and(and(a, no), and(b, no)), preds(a, no, b, no)},
		{"no kid", node(api.PAnd), preds(node(api.PAnd))},
		{"one kid", node(api.PAnd, a), preds(node(api.PAnd, a))},
		{"one kid that is true", node(api.PAnd, yes), preds(node(api.PAnd, yes))},
		{"three kids", three, preds(three)},
		{"another number of kids among others", and(and(three, node(api.PAnd, and(a, b))), and(node(api.PAnd), c)), preds(three, node(api.PAnd, and(a, b)), node(api.PAnd), c)},
		{"with other fields", api.Pred{Op: api.PAnd, Name: "x", N: 1, Kids: preds(a, b)}, preds(a, b)},
		{"conjunctions below other kinds stay", and(not(and(a, b)), node(api.POr, and(a, b), c)), preds(not(and(a, b)), node(api.POr, and(a, b), c))},
		{"other kinds with two kids", node(api.PIff, a, b), preds(node(api.PIff, a, b))},
		{"example 2", and(and(a, b), c), preds(a, b, c)},
	} {
		checkPreds(t, e.what, Split(e.p), e.want)
	}
	for _, p := range truthLike() {
		if p.Op != api.PAnd || len(p.Kids) != 2 {
			checkPreds(t, "nearly true", Split(p), preds(p))
			checkPreds(t, "nearly true in a conjunction", Split(and(and(p, yes), and(none, p))), preds(p, p))
		}
	}
}

func TestNot(t *testing.T) {
	a, b := x("a"), node(api.PLt, x("b"), integer(1))
	for _, c := range []struct {
		what    string
		p, want api.Pred
	}{
		{"a variable", a, not(a)},
		{"a comparison", b, not(b)},
		{"a conjunction", and(a, b), not(and(a, b))},
		{"a negation", not(b), b},
		{"two negations", not(not(b)), not(b)},
		{"the negation of true", not(yes), yes},
		{"the negation of false", not(no), no},
		{"the negation of the zero predicate", not(none), none},
		{"a negation with other fields", api.Pred{Op: api.PNot, Name: "x", N: 1, Kids: preds(b)}, b},
		{"true", yes, no},
		{"true with an empty list", other(yes), no},
		{"false", no, yes},
		{"false with an empty list", other(no), yes},
		{"the zero predicate", none, no},
		{"the zero predicate with an empty list", other(none), no},
		{"a negation without kids", node(api.PNot), not(node(api.PNot))},
		{"a negation with two kids", node(api.PNot, a, b), not(node(api.PNot, a, b))},
		{"a negation with three kids", node(api.PNot, a, b, a), not(node(api.PNot, a, b, a))},
		{"the other kind with one kid", node(api.PNeg, a), not(node(api.PNeg, a))},
		{"true with a name", api.Pred{Op: api.PBool, N: 1, Name: "x"}, not(api.Pred{Op: api.PBool, N: 1, Name: "x"})},
	} {
		checkPred(t, c.what, Not(c.p), c.want)
	}
	for _, p := range truthLike() {
		if p.Op != api.PNot {
			checkPred(t, "nearly true or false", Not(p), not(p))
		}
	}
}

func TestAndSplitAndNotOfDrawnPredicates(t *testing.T) {
	drawn(75, func(r *rand.Rand, p api.Pred) {
		l := slices.Insert(somePreds(r, 4), 0, p)
		if got := And(l...); !equal(got, expectedAnd(l)) {
			t.Fatalf("And of %s: %s", show(l...), show(got))
		}
		if got := Split(p); show(got...) != show(expectedSplit(p)...) {
			t.Fatalf("Split of %s: %s", show(p), show(got...))
		}
		if got := Not(p); !equal(got, expectedNot(p)) {
			t.Fatalf("Not of %s: %s", show(p), show(got))
		}
	})
}

// P7.6

// holeOf returns an unknown predicate with these parameters, sol its solution.
func holeOf(name string, params ...string) api.Hole {
	h := api.Hole{Name: name}
	for _, s := range params {
		h.Params = append(h.Params, api.Var{Name: s, Sort: "Int"})
	}
	return h
}

func sol(name string, p api.Pred) api.Sol { return api.Sol{Name: name, Pred: p} }

func le(a, b api.Pred) api.Pred { return node(api.PLe, a, b) }

func TestFillOfOneHole(t *testing.T) {
	k := []api.Hole{holeOf("k", "v", "x")}
	is := func(p api.Pred) []api.Sol { return []api.Sol{sol("k", p)} }
	solved := is(le(x("v"), x("x")))
	one, two, three := integer(1), integer(2), integer(3)
	for _, c := range []struct {
		what  string
		p     api.Pred
		holes []api.Hole
		l     []api.Sol
		want  api.Pred
	}{
		{"example 3", hole("k", node(api.PAdd, x("y"), one), integer(5)), k, solved, le(node(api.PAdd, x("y"), one), integer(5))},
		{"swapped", hole("k", x("x"), x("v")), k, solved, le(x("x"), x("v"))},
		{"below others", not(and(hole("k", one, two), app("f", hole("k", two, one)))), k, solved, not(and(le(one, two), app("f", le(two, one))))},
		{"fewer kids", hole("k", one), k, solved, le(one, x("x"))},
		{"no kids", hole("k"), k, solved, le(x("v"), x("x"))},
		{"more kids", hole("k", one, two, three), k, solved, le(one, two)},
		{"other variables in the solution", hole("k", one, two), k, is(le(x("y"), x("v"))), le(x("y"), one)},
		{"a parameter several times", hole("k", one, two), k, is(and(x("v"), and(x("v"), x("x")))), and(one, and(one, two))},
		{"a parameter alone", hole("k", x("y"), two), k, is(x("v")), x("y")},
		{"two parameters of the same name", hole("k", one, two), []api.Hole{holeOf("k", "v", "v")}, solved, le(one, x("x"))},
		{"no parameters", hole("k", one, two), []api.Hole{holeOf("k")}, solved, le(x("v"), x("x"))},
		{"a parameter with the name of the hole", hole("k", one), []api.Hole{holeOf("k", "k")}, is(le(x("k"), two)), le(one, two)},
		{"a number in the hole", api.Pred{Op: api.PHole, Name: "k", N: 3, Kids: preds(one, two)}, k, solved, le(one, two)},
		{"true", hole("k", one, two), k, is(yes), yes},
		{"false", hole("k", one, two), k, is(no), no},
		{"the zero predicate", hole("k", one, two), k, is(none), yes},
		{"the zero predicate with an empty list", hole("k", one, two), k, is(other(none)), yes},
		{"nearly the zero predicate", hole("k", one, two), k, is(api.Pred{N: 1}), api.Pred{N: 1}},
		{"nearly true", hole("k", one, two), k, is(boolean(2)), boolean(2)},
		{"a zero predicate inside of the solution", hole("k", one, two), k, is(not(none)), not(none)},
		{"a zero predicate as kid", hole("k", none, two), k, is(x("v")), none},
		{"no solution", hole("k", one, two), k, nil, yes},
		{"a solution of another one", hole("k", one, two), k, []api.Sol{sol("j", no)}, yes},
		{"no hole", hole("k", one, two), nil, solved, yes},
		{"another hole", hole("k", one, two), []api.Hole{holeOf("j", "v", "x")}, solved, yes},
		{"neither", hole("k", one, two), nil, nil, yes},
		{"neither, without kids", hole("k"), nil, nil, yes},
		{"below others, no solution", le(hole("k", one, two), not(hole("k"))), k, nil, le(yes, not(yes))},
		{"solutions for an application", app("k", one, two), k, solved, app("k", one, two)},
		{"solutions for a variable", app("f", x("k"), x("v"), x("x")), k, solved, app("f", x("k"), x("v"), x("x"))},
		{"other nodes keep their fields", api.Pred{Op: 77, Name: "k", N: 2, Kids: preds(none)}, k, solved, api.Pred{Op: 77, Name: "k", N: 2, Kids: preds(none)}},
		{"the zero predicate itself", none, k, solved, none},
		{"an empty name", hole("", one), []api.Hole{holeOf("", "")}, []api.Sol{sol("", x(""))}, one},
	} {
		checkPred(t, c.what, Fill(c.p, c.holes, c.l), c.want)
	}
}

func TestFillOfSeveralHoles(t *testing.T) {
	holes := []api.Hole{holeOf("j", "v"), holeOf("k", "v", "x"), holeOf("i"), holeOf("k", "x", "v"), holeOf("j", "x"), holeOf("h", "v")}
	l := []api.Sol{sol("k", le(x("v"), x("x"))), sol("j", node(api.PLt, x("v"), x("x"))), sol("k", no), sol("i", none), sol("i", no), sol("j", no), sol("g", no)}
	lt := func(a, b api.Pred) api.Pred { return node(api.PLt, a, b) }
	one, two, three := integer(1), integer(2), integer(3)
	for _, c := range []struct {
		what    string
		p, want api.Pred
	}{
		{"the first ones count", hole("k", one, two), le(one, two)},
		{"the first ones count of another one", hole("j", one, two), lt(one, x("x"))},
		{"side by side", and(hole("j", one), hole("k", one, two)), and(lt(one, x("x")), le(one, two))},
		{"the first solution is the zero predicate", hole("i", one), yes},
		{"no solution", hole("h", one), yes},
		{"a solution but no hole", hole("g", one), yes},
		{"in the first kid", hole("k", hole("j", two), three), le(lt(two, x("x")), three)},
		{"in the second kid", hole("k", two, not(hole("j", three))), le(two, not(lt(three, x("x"))))},
		{"in itself", hole("k", hole("k", one, two), hole("k", two, one)), le(le(one, two), le(two, one))},
		{"in a kid that vanishes", hole("j", one, hole("k", one, two)), lt(one, x("x"))},
		{"in one without a solution", hole("h", hole("k", one, two)), yes},
		{"one without a solution in it", hole("k", hole("h", one), hole("g")), le(yes, yes)},
		{"kids with the names of parameters", hole("k", hole("j", x("x")), x("v")), le(lt(x("x"), x("x")), x("v"))},
	} {
		checkPred(t, c.what, Fill(c.p, holes, l), c.want)
	}
}

func TestFillDoesNotFillSolutions(t *testing.T) {
	holes := []api.Hole{holeOf("k", "v"), holeOf("j", "v")}
	l := []api.Sol{sol("k", not(hole("j", x("v")))), sol("j", le(x("v"), hole("j", x("v"), hole("k", x("x")))))}
	checkPred(t, "another one", Fill(hole("k", integer(1)), holes, l), not(hole("j", integer(1))))
	checkPred(t, "itself", Fill(hole("j", integer(1)), holes, l), le(integer(1), hole("j", integer(1), hole("k", x("x")))))
	checkPred(t, "in a kid", Fill(hole("k", hole("k", integer(1))), holes, l), not(hole("j", not(hole("j", integer(1))))))
	checkPred(t, "a solution that is one", Fill(hole("k", integer(1)), holes, []api.Sol{sol("k", hole("k", x("v"), x("v")))}), hole("k", integer(1), integer(1)))
}

func TestFillOfDrawnPredicates(t *testing.T) {
	other := 0
	drawn(76, func(r *rand.Rand, p api.Pred) {
		var holes []api.Hole
		var l []api.Sol
		for range r.Intn(6) {
			holes = append(holes, holeOf(pick(r, "k", "j", "i", "h", "f"), someNames(r, 3)...))
		}
		for range r.Intn(6) {
			l = append(l, sol(pick(r, "k", "j", "i", "h", "f"), anyPred(r, 1+r.Intn(3))))
		}
		want := expectedFill(p, holes, l)
		if got := Fill(p, holes, l); !equal(got, want) {
			t.Fatalf("%s, %v, %v: %s, but it is %s", show(p), holes, l, show(got), show(want))
		}
		if !equal(want, p) {
			other++
		}
	})
	if other < 5000 {
		t.Errorf("only %d predicates changed", other)
	}
}

func TestFillOfKidsThatAreNeededNowhere(t *testing.T) {
	holes := []api.Hole{holeOf("k", "v"), holeOf("j", "v")}
	l := []api.Sol{sol("k", and(x("v"), x("v"))), sol("j", integer(1))}
	p := chain(100, x("x"), func(p api.Pred) api.Pred { return hole("k", p) })
	checkPred(t, "a kid that would be too large", Fill(and(hole("j", p), hole("i", p)), holes, l), and(integer(1), yes))
	checkPred(t, "a kid that is doubled again and again", Fill(chain(10, x("x"), func(p api.Pred) api.Pred { return hole("k", p) }), holes, l), chain(10, x("x"), func(p api.Pred) api.Pred { return and(p, p) }))
}
