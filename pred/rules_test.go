package pred

import (
	"fmt"
	"math/rand"
	"reflect"
	"slices"
	"testing"

	"liquidcheck/api"
)

// P7.7

func TestReplacingANameThatIsNotFreeChangesNothing(t *testing.T) {
	r := rand.New(rand.NewSource(77))
	free, notFree := 0, 0
	for range 20000 {
		p, by := accepted(r), accepted(r)
		for _, name := range []string{"x", "y", "z", "v", "x.1", "f", "k", "tag", ""} {
			got := Subst(p, name, by)
			if !slices.Contains(Free(p), name) {
				notFree++
				if !Same(got, p) || !equal(got, p) {
					t.Fatalf("%s, %q: %s", show(p), name, show(got))
				}
				continue
			}
			free++
			if slices.Contains(Free(got), name) != slices.Contains(Free(by), name) {
				t.Fatalf("%s, %q by %s: %q are free", show(p), name, show(by), Free(got))
			}
		}
	}
	if free < 5000 || notFree < 5000 {
		t.Errorf("only %d names were free, and %d were not", free, notFree)
	}
}

func TestNamesThatWereReplacedAreFreeOnlyIfTheyComeInAgain(t *testing.T) {
	r := rand.New(rand.NewSource(78))
	for range 20000 {
		p := accepted(r)
		names := slices.Compact(slices.Sorted(slices.Values(someNames(r, 4))))
		var by []api.Pred
		var in []string
		for _, name := range names {
			by = append(by, accepted(r))
			if slices.Contains(Free(p), name) {
				in = append(in, Free(by[len(by)-1])...)
			}
		}
		for _, name := range Free(p) {
			if !slices.Contains(names, name) {
				in = append(in, name)
			}
		}
		slices.Sort(in)
		if got := Free(SubstAll(p, names, by)); !slices.Equal(got, slices.Compact(in)) {
			t.Fatalf("%s, %q by %s: %q are free", show(p), names, show(by...), got)
		}
	}
}

// results are what all functions return for these arguments, as a text.
func results(a, b api.Pred) string {
	holes := []api.Hole{holeOf("k", "v", "x"), holeOf("f", "x"), holeOf("g", "x")}
	l := []api.Sol{sol("k", b), sol("f", a)}
	return fmt.Sprint(
		Check(a), Nodes(a), Depth(a), Same(a, b), Free(a), show(Apps(a)...), show(Holes(a)...), show(Subst(a, "x", b)), show(Subst(b, "y", a)),
		show(SubstAll(a, []string{"x", "y"}, preds(b, a))), show(And(a, b, a)), show(And(b)), show(Split(a)...), show(Not(a)), show(Fill(a, holes, l)),
	)
}

func TestSameIsAnEqualityUnderWhichTheOthersAgree(t *testing.T) {
	r := rand.New(rand.NewSource(79))
	for i := range 5000 {
		a, b, c := accepted(r), accepted(r), accepted(r)
		if i%2 == 0 {
			a, b, c = anyPred(r, 1+r.Intn(3)), anyPred(r, 1+r.Intn(2)), anyPred(r, 1)
		}
		if !Same(a, a) || !Same(a, other(a)) || Same(a, b) != Same(b, a) || Same(a, b) && Same(b, c) && !Same(a, c) {
			t.Fatalf("%s, %s, %s: no equality", show(a), show(b), show(c))
		}
		if Same(a, b) && results(a, c) != results(b, c) {
			t.Fatalf("%s, %s: they differ for the same predicates", show(a), show(c))
		}
		want := results(a, b)
		if results(other(a), b) != want || results(a, other(b)) != want || results(other(a), other(b)) != want {
			t.Fatalf("%s, %s: they differ for the same predicates", show(a), show(b))
		}
	}
}

// P7.8

func TestConjunctsOfAConjunctionAreThoseOfItsElements(t *testing.T) {
	r := rand.New(rand.NewSource(80))
	isFalse := 0
	for i := range 20000 {
		var l, want []api.Pred
		for range r.Intn(5) {
			p := accepted(r)
			if i%2 == 0 {
				p = anyPred(r, 1+r.Intn(4))
			}
			l, want = append(l, p), append(want, Split(p)...)
		}
		all := And(l...)
		if isNo(all) {
			isFalse++
			continue
		}
		if got := Split(all); !slices.EqualFunc(got, want, Same) || show(got...) != show(want...) {
			t.Fatalf("%s: %s", show(l...), show(got...))
		}
	}
	if isFalse > 10000 {
		t.Errorf("%d were false", isFalse)
	}
}

func TestTheConjunctionOfConjunctsHasTheSameOnes(t *testing.T) {
	several := 0
	drawn(81, func(_ *rand.Rand, p api.Pred) {
		l := Split(p)
		if slices.ContainsFunc(l, isNo) {
			checkPred(t, "the conjunction with false of "+show(p), And(l...), no)
			return
		}
		if len(l) > 1 {
			several++
		}
		if got := Split(And(l...)); show(got...) != show(l...) {
			t.Fatalf("%s: %s", show(p), show(got...))
		}
	})
	if several < 1000 {
		t.Errorf("only %d predicates had several conjuncts", several)
	}
}

// Rules 1, 3 and 4

// calls are calls of all functions that return predicates or texts, with arguments from a and b; each returns all of its result as one list.
func calls(a, b api.Pred, l []api.Pred, names []string, holes []api.Hole, sols []api.Sol) map[string]func() []api.Pred {
	return map[string]func() []api.Pred{
		"Apps":     func() []api.Pred { return Apps(a) },
		"Holes":    func() []api.Pred { return Holes(a) },
		"Subst":    func() []api.Pred { return preds(Subst(a, "x", b)) },
		"SubstAll": func() []api.Pred { return preds(SubstAll(a, names, l)) },
		"And":      func() []api.Pred { return preds(And(l...)) },
		"And of 1": func() []api.Pred { return preds(And(a)) },
		"Split":    func() []api.Pred { return Split(a) },
		"Split 2":  func() []api.Pred { return Split(and(a, b)) },
		"Not":      func() []api.Pred { return preds(Not(a)) },
		"Not Not":  func() []api.Pred { return preds(Not(not(a))) },
		"Fill":     func() []api.Pred { return preds(Fill(a, holes, sols)) },
	}
}

// roomy returns p in memory of its own, with room for more kids everywhere.
func roomy(p api.Pred) api.Pred {
	kids := make([]api.Pred, 0, len(p.Kids)+2)
	for _, k := range p.Kids {
		kids = append(kids, roomy(k))
	}
	p.Kids = append(kids, x("room"), not(x("room")))[:len(kids)]
	return p
}

// places returns all places of a list and of the kids in it, also those behind the ends.
func places(l []api.Pred) []*api.Pred {
	var all []*api.Pred
	for i := range l[:cap(l)] {
		p := &l[:cap(l)][i]
		all = append(append(all, p), places(p.Kids)...)
	}
	return all
}

// contentsOf returns what is at places, as a text.
func contentsOf(l []*api.Pred) string {
	var all []api.Pred
	for _, p := range l {
		all = append(all, *p)
	}
	return show(all...)
}

// sharing are arguments of all kinds, in which the same memory occurs several times.
func sharing(r *rand.Rand) (a, b api.Pred, l []api.Pred, names []string, holes []api.Hole, sols []api.Sol) {
	a, b = roomy(rightPred(r, 1+r.Intn(4))), roomy(rightPred(r, 1+r.Intn(3)))
	twice := and(app("f", a, hole("k", a, b)), and(hole("k", b, a), not(hole("k", x("x"), a))))
	a = pick(r, a, and(a, a), twice, and(twice, twice), not(a))
	l = append(make([]api.Pred, 0, 9), a, b, yes, a, and(b, b))
	names = append(make([]string, 0, 9), "x", "y", "v", "x", "z")
	holes = append(make([]api.Hole, 0, 9), holeOf("k", "v", "x"), holeOf("f", "y"))
	sols = append(make([]api.Sol, 0, 9), sol("k", and(and(x("v"), x("x")), and(x("v"), b))), sol("f", b))
	return a, b, l, names, holes, sols
}

func TestResultsShareNothing(t *testing.T) {
	r := rand.New(rand.NewSource(82))
	for range 300 {
		a, b, l, names, holes, sols := sharing(r)
		args := append(places(preds(a, b, sols[0].Pred, sols[1].Pred)), places(l)...)
		before, others := contentsOf(args), fmt.Sprint(names[:9], holes[:9], len(sols))
		for what, call := range calls(a, b, l, names, holes, sols) {
			got := call()
			want := show(got...)
			if contentsOf(args) != before || fmt.Sprint(names[:9], holes[:9], len(sols)) != others {
				t.Fatalf("%s changes an argument: %s", what, show(a, b))
			}
			seen := map[*api.Pred]bool{}
			for _, p := range args {
				seen[p] = true
			}
			for _, p := range places(got) {
				if seen[p] {
					t.Fatalf("%s shares memory: %s", what, show(a, b))
				}
				seen[p] = true
			}
			for _, p := range places(got) {
				*p = x("spoilt")
			}
			if contentsOf(args) != before {
				t.Fatalf("%s: an argument changes with the result: %s", what, show(a, b))
			}
			if again := call(); show(again...) != want {
				t.Fatalf("%s: another result for the same arguments: %s", what, show(again...))
			}
		}
	}
}

func TestAPartOfAResultThatIsChangedChangesNoOther(t *testing.T) {
	r := rand.New(rand.NewSource(83))
	for range 300 {
		a, b, l, names, holes, sols := sharing(r)
		for what, call := range calls(a, b, l, names, holes, sols) {
			got := call()
			all := places(got)
			if len(all) == 0 {
				continue
			}
			i := r.Intn(len(all))
			was := *all[i]
			*all[i] = integer(77)
			changed := 0
			for _, p := range places(got) {
				if equal(*p, integer(77)) {
					changed++
				}
			}
			*all[i] = was
			if changed != 1 || show(got...) != show(call()...) {
				t.Fatalf("%s: %d places changed: %s", what, changed, show(a, b))
			}
		}
	}
}

func TestFreeReturnsMemoryOfItsOwn(t *testing.T) {
	p := app("f", x("y"), x("x"))
	l := Free(p)
	l[0] = "z"
	if got := Free(p); !slices.Equal(got, []string{"x", "y"}) {
		t.Errorf("%q are free", got)
	}
}

func TestNoCheckChangesItsArgument(t *testing.T) {
	r := rand.New(rand.NewSource(84))
	for range 1000 {
		a, b := roomy(anyPred(r, 1+r.Intn(4))), roomy(rightPred(r, 1+r.Intn(4)))
		args := places(preds(a, b))
		before := contentsOf(args)
		for _, p := range preds(a, b) {
			Check(p)
			Nodes(p)
			Depth(p)
			Free(p)
		}
		Same(a, b)
		Same(a, roomy(a))
		if contentsOf(args) != before {
			t.Fatalf("an argument changed: %s", before)
		}
	}
}

func TestResultsAreTheSameEachTime(t *testing.T) {
	r := rand.New(rand.NewSource(85))
	for range 500 {
		a, b, l, names, holes, sols := sharing(r)
		for what, call := range calls(a, b, l, names, holes, sols) {
			first := call()
			for range 5 {
				if !reflect.DeepEqual(call(), first) {
					t.Fatalf("%s: another result for %s", what, show(a, b))
				}
			}
		}
	}
}

func TestDeepPredicates(t *testing.T) {
	const n = 65535
	p := chain(n, app("f", x("x")), not)
	left := chain(n, x("x"), func(p api.Pred) api.Pred { return and(p, x("y")) })
	right := chain(n, x("x"), func(p api.Pred) api.Pred { return and(x("y"), p) })
	holes, sols := []api.Hole{holeOf("k", "v")}, []api.Sol{sol("k", not(x("v")))}
	checkCheck(t, "a deep one", p, api.ErrLong)
	if !Same(p, other(p)) || Same(p, p.Kids[0]) || Nodes(left) != 2*n+1 || Depth(right) != n+1 {
		t.Errorf("%d nodes, %d levels", Nodes(left), Depth(right))
	}
	if !slices.Equal(Free(left), []string{"x", "y"}) || len(Apps(p)) != 1 || len(Holes(p)) != 0 || len(Split(left)) != n+1 || len(Split(right)) != n+1 {
		t.Errorf("%q are free", Free(left))
	}
	if got := Subst(p, "x", x("y")); Depth(got) != n+2 || !slices.Equal(Free(got), []string{"y"}) {
		t.Errorf("%d levels, %q are free", Depth(got), Free(got))
	}
	if !Same(And(Split(right)...), And(append(many(n, x("y")), x("x"))...)) || !Same(And(append(preds(x("x")), many(n, x("y"))...)...), left) {
		t.Errorf("a long conjunction is another one")
	}
	if !Same(Not(p), p.Kids[0]) || !Same(Not(left), not(left)) {
		t.Errorf("a deep negation is another one")
	}
	deep := chain(n, x("x"), func(p api.Pred) api.Pred { return hole("k", p) })
	if got := Fill(deep, holes, sols); !Same(got, chain(n, x("x"), not)) {
		t.Errorf("%d nodes", Nodes(got))
	}
}
