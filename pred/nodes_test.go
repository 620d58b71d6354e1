package pred

import (
	"math"
	"math/rand"
	"slices"
	"strings"
	"testing"

	"liquidcheck/api"
)

// example1 is x + 1 <= f(y).
var example1 = node(api.PLe, node(api.PAdd, x("x"), integer(1)), app("f", x("y")))

// P7.2

func TestNodesAndDepth(t *testing.T) {
	for _, c := range []struct {
		what         string
		p            api.Pred
		nodes, depth int
	}{
		{"the zero predicate", none, 1, 1},
		{"a number out of bounds", integer(math.MinInt), 1, 1},
		{"a variable", x("x"), 1, 1},
		{"a variable with an empty list of kids", other(x("x")), 1, 1},
		{"an application without kids", app("f"), 1, 1},
		{"a negation", not(x("x")), 2, 2},
		{"a number with kids", node(api.PInt, x("x"), x("y")), 3, 2},
		{"unknown kinds", node(77, none, node(-7, none)), 4, 3},
		{"the first kid is the deepest", and(not(not(x("x"))), x("y")), 5, 4},
		{"the second kid is the deepest", app("f", x("x"), not(not(x("y"))), not(x("z"))), 7, 4},
		{"the last kid is the deepest", and(x("x"), not(x("y"))), 4, 3},
		{"the same kid twice", and(not(x("x")), not(x("x"))), 5, 3},
		{"example 1", example1, 6, 3},
		{"as many nodes as there can be", ofNodes(400), 400, 19},
		{"one more", ofNodes(401), 401, 19},
		{"a wide one", app("f", many(70000, x("x"))...), 70001, 2},
		{"a deep one", chain(65535, x("x"), not), 65536, 65536},
	} {
		if n := Nodes(c.p); n != c.nodes {
			t.Errorf("%s: %d nodes, but it has %d", c.what, n, c.nodes)
		}
		if n := Depth(c.p); n != c.depth {
			t.Errorf("%s: %d levels, but it has %d", c.what, n, c.depth)
		}
	}
}

func TestNodesDepthAndFreeOfDrawnPredicates(t *testing.T) {
	drawn(72, func(_ *rand.Rand, p api.Pred) {
		if got, want := Nodes(p), len(preorder(p)); got != want {
			t.Fatalf("%s: %d nodes, but it has %d", show(p), got, want)
		}
		if got, want := Depth(p), levels(p); got != want {
			t.Fatalf("%s: %d levels, but it has %d", show(p), got, want)
		}
		if got, want := Free(p), expectedFree(p); !slices.Equal(got, want) {
			t.Fatalf("%s: %q are free, but %q are", show(p), got, want)
		}
	})
}

// changed returns p after a change.
func changed(p api.Pred, f func(p *api.Pred)) api.Pred {
	p.Kids = slices.Clone(p.Kids)
	f(&p)
	return p
}

// variants are predicates that differ from p in one field or one kid.
func variants(p api.Pred) []api.Pred {
	var l []api.Pred
	for _, f := range []func(*api.Pred){
		func(q *api.Pred) { q.Op++ },
		func(q *api.Pred) { q.Op += 1 << 32 },
		func(q *api.Pred) { q.Op = -q.Op - 1 },
		func(q *api.Pred) { q.Name += "x" },
		func(q *api.Pred) { q.Name += "\x00" },
		func(q *api.Pred) { q.Name = " " + q.Name },
		func(q *api.Pred) { q.N++ },
		func(q *api.Pred) { q.N += 1 << 32 },
		func(q *api.Pred) { q.N = -q.N - 1 },
		func(q *api.Pred) { q.Kids = append(q.Kids, none) },
		func(q *api.Pred) { q.Kids = append(preds(none), q.Kids...) },
	} {
		l = append(l, changed(p, f))
	}
	for i, k := range p.Kids {
		l = append(l, changed(p, func(q *api.Pred) { q.Kids = slices.Delete(q.Kids, i, i+1) }))
		for _, j := range variants(k) {
			l = append(l, changed(p, func(q *api.Pred) { q.Kids[i] = j }))
		}
	}
	if n := len(p.Kids); n > 1 && !equal(p.Kids[0], p.Kids[n-1]) {
		l = append(l, changed(p, func(q *api.Pred) { slices.Reverse(q.Kids) }))
	}
	return l
}

func TestSameOfVariants(t *testing.T) {
	for _, p := range preds(
		none, yes, integer(-3), x("x"), app("f", x("y"), x("x")), hole("k", app("f"), yes, not(x("v"))), not(not(x("x"))), example1,
		and(and(x("x"), integer(1)), node(api.PLe, app("f", integer(1)), app("f", x("")))),
		chain(6, x("x"), func(p api.Pred) api.Pred { return node(api.PSub, integer(4), p) }),
		api.Pred{Op: -5, Name: "\xff", N: math.MinInt, Kids: preds(api.Pred{Name: "x", N: math.MaxInt})},
	) {
		if !Same(p, p) || !Same(p, other(p)) || !Same(other(p), p) {
			t.Errorf("%s is not the same as itself", show(p))
		}
		for _, q := range variants(p) {
			if Same(p, q) || Same(q, p) || Same(other(p), q) {
				t.Errorf("%s and %s are the same", show(p), show(q))
			}
			if !Same(q, other(q)) || !Same(other(q), q) {
				t.Errorf("%s is not the same as itself", show(q))
			}
		}
	}
}

func TestSameTellsTruthValuesFromOthers(t *testing.T) {
	l := preds(none, yes, no, integer(0), integer(1), boolean(2), x(""), x("true"), node(api.PBool, none), node(0, none), not(none), api.Pred{Op: api.PBool, Name: "x"}, api.Pred{Op: api.PBool, N: 1, Name: "x"}, api.Pred{Name: "x"}, api.Pred{N: 1}, api.Pred{Op: -1})
	for i, a := range l {
		for j, b := range l {
			if Same(a, b) != (i == j) || Same(a, other(b)) != (i == j) {
				t.Errorf("%s, %s: %t", show(a), show(b), Same(a, b))
			}
		}
	}
}

func TestSameOfPairsOfSmallPredicates(t *testing.T) {
	var l []api.Pred
	trees(1, preds(yes, none, x("x"), app("x"), node(api.PAnd)), func(p api.Pred) { l = append(l, p) })
	trees(2, preds(yes, none, x("x"), app("x"), node(api.PAnd)), func(p api.Pred) { l = append(l, p) })
	trees(3, preds(yes, x("x"), node(api.PAnd)), func(p api.Pred) { l = append(l, p) })
	trees(4, preds(x("x"), node(api.PAnd)), func(p api.Pred) { l = append(l, p) })
	for _, a := range l {
		for _, b := range l {
			if got := Same(a, b); got != equal(a, b) {
				t.Fatalf("%s, %s: %t", show(a), show(b), got)
			}
		}
	}
}

func TestFree(t *testing.T) {
	for _, c := range []struct {
		what string
		p    api.Pred
		want string
	}{
		{"a number", integer(1), ""},
		{"the zero predicate", none, ""},
		{"a variable", x("x"), "x"},
		{"v", node(api.PLe, x("v"), x("u")), "u v"},
		{"several times", node(api.PAdd, x("y"), node(api.PAdd, x("x"), app("f", x("y"), x("x"), x("y")))), "x y"},
		{"functions and unknown predicates are not meant", app("f", hole("k", x("z"), x("f"))), "f z"},
		{"names of other kinds are not meant", and(api.Pred{Op: api.PInt, Name: "a"}, api.Pred{Op: 99, Name: "b", Kids: preds(x("c"))}), "c"},
		{"kids of a variable", api.Pred{Op: api.PVar, Name: "x", Kids: preds(x("y"), not(x("a")))}, "a x y"},
		{"byte by byte", app("f", x("x.1"), x("x1"), x("x"), x("X"), x("x.10"), x("x.2"), x("x_"), x("b"), x("aa")), "X aa b x x.1 x.10 x.2 x1 x_"},
		{"example 1", example1, "x y"},
	} {
		if got := Free(c.p); !slices.Equal(got, strings.Fields(c.want)) {
			t.Errorf("%s: %q", c.what, got)
		}
	}
	if got := Free(app("f", x(""), x("\xff"), x("\x00"), x(""), x("no name"))); !slices.Equal(got, []string{"", "\x00", "no name", "\xff"}) {
		t.Errorf("texts that are no names: %q", got)
	}
}

// P7.3

// maker makes predicates of a kind.
type maker func(name string, l ...api.Pred) api.Pred

// search is a predicate, and what is found in it.
type search struct {
	what string
	p    api.Pred
	want []api.Pred
}

// searches looks for the predicates that m makes; those that o makes are not looked for.
func searches(m, o maker) []search {
	a, b := x("x"), integer(1)
	deep := func(k int) api.Pred {
		return chain(30, integer(k), func(p api.Pred) api.Pred { return node(api.PAdd, integer(1), p) })
	}
	ffa := m("f", m("f", a))
	return []search{
		{"none", and(a, not(b)), nil},
		{"the zero predicate", none, nil},
		{"another kind", o("f", a, o("f", b)), nil},
		{"itself", m("f", a), preds(m("f", a))},
		{"without kids", m("f"), preds(m("f"))},
		{"with other fields", api.Pred{Op: m("f").Op, Name: "f", N: 7}, preds(api.Pred{Op: m("f").Op, Name: "f", N: 7})},
		{"the same twice", and(m("f", a), m("f", a)), preds(m("f", a))},
		{"the same in other memory", and(m("f", a, m("g")), other(m("f", a, m("g")))), preds(m("g"), m("f", a, m("g")))},
		{"the kids come in order", o("f", m("f", b), not(m("g", a)), m("f", a)), preds(m("f", b), m("g", a), m("f", a))},
		{"the inner one comes first", m("f", m("g", a)), preds(m("g", a), m("f", m("g", a)))},
		{"inside of itself", m("f", ffa), preds(m("f", a), ffa, m("f", ffa))},
		{"the first one counts", and(and(m("f", b), m("g", m("f", a))), and(m("f", a), m("f", b))), preds(m("f", b), m("f", a), m("g", m("f", a)))},
		{"the inner one is the first one", m("g", m("f", m("g", a)), m("g", a), m("h", m("f", m("g", a)))), preds(m("g", a), m("f", m("g", a)), m("h", m("f", m("g", a))), m("g", m("f", m("g", a)), m("g", a), m("h", m("f", m("g", a)))))},
		{"inside of the other kind", o("f", m("f", o("g", m("g", a)))), preds(m("g", a), m("f", o("g", m("g", a))))},
		{"the other kind tells them apart", and(m("f", m("g", a)), m("f", o("g", a))), preds(m("g", a), m("f", m("g", a)), m("f", o("g", a)))},
		{"different deep inside alone", and(and(m("f", deep(1)), m("f", deep(2))), m("f", deep(1))), preds(m("f", deep(1)), m("f", deep(2)))},
		{"different names", o("f", m("f", a), m("ff", a), m("", a), m("f ", a), m("f", a)), preds(m("f", a), m("ff", a), m("", a), m("f ", a))},
		{"different kids", o("f", m("f", a, b), m("f", b, a), m("f", a), m("f", a, b, b), m("f", b), m("f", a, b)), preds(m("f", a, b), m("f", b, a), m("f", a), m("f", a, b, b), m("f", b))},
		{"kids of different kinds", o("f", m("f", integer(1)), m("f", yes), m("f", api.Pred{N: 1}), m("f", x("1")), m("f", none)), preds(m("f", integer(1)), m("f", yes), m("f", api.Pred{N: 1}), m("f", x("1")), m("f", none))},
		{"digits that can be cut in several ways", o("f", m("f", integer(1), integer(2)), m("f", integer(12)), m("f", integer(1), integer(2), none), m("2", integer(1)), m("1 2:2")), preds(m("f", integer(1), integer(2)), m("f", integer(12)), m("f", integer(1), integer(2), none), m("2", integer(1)), m("1 2:2"))},
		{"below nodes of all kinds", node(77, node(api.PInt, m("f")), api.Pred{Op: api.PVar, Name: "x", Kids: preds(m("g"))}, node(0, m("h"))), preds(m("f"), m("g"), m("h"))},
	}
}

func TestApps(t *testing.T) {
	for _, c := range searches(app, hole) {
		checkPreds(t, c.what, Apps(c.p), c.want)
	}
	checkPreds(t, "example 1", Apps(example1), preds(app("f", x("y"))))
	checkPreds(t, "tag and val", Apps(and(app("tag", x("l")), app("val", x("c")))), preds(app("tag", x("l")), app("val", x("c"))))
}

func TestHoles(t *testing.T) {
	for _, c := range searches(hole, app) {
		checkPreds(t, c.what, Holes(c.p), c.want)
	}
	checkPreds(t, "example 1", Holes(example1), nil)
}

func TestAppsAndHolesOfDrawnPredicates(t *testing.T) {
	apps, holes, again := 0, 0, 0
	drawn(73, func(_ *rand.Rand, p api.Pred) {
		wantApps, wantHoles := expectedOfKind(p, api.PApp), expectedOfKind(p, api.PHole)
		if got := Apps(p); show(got...) != show(wantApps...) {
			t.Fatalf("%s: %s, but it is %s", show(p), show(got...), show(wantApps...))
		}
		if got := Holes(p); show(got...) != show(wantHoles...) {
			t.Fatalf("%s: %s, but it is %s", show(p), show(got...), show(wantHoles...))
		}
		apps, holes = apps+len(wantApps), holes+len(wantHoles)
		for _, q := range preorder(p) {
			if q.Op == api.PApp || q.Op == api.PHole {
				again++
			}
		}
	})
	if again -= apps + holes; apps < 5000 || holes < 5000 || again < 1000 {
		t.Errorf("only %d applications, %d unknown predicates, %d again", apps, holes, again)
	}
}

func TestAppsAndHolesOfLargePredicates(t *testing.T) {
	const n = 100000
	var l []api.Pred
	for i := range n {
		l = append(l, app("f", integer(i), hole("k", integer(i%1000))))
	}
	p := node(77, append(l, l...)...)
	if got := Apps(p); show(got...) != show(l...) {
		t.Errorf("%d applications", len(got))
	}
	if got := Holes(p); len(got) != 1000 || !equal(got[999], hole("k", integer(999))) {
		t.Errorf("%d unknown predicates", len(got))
	}
	deep := chain(1000, x("x"), func(p api.Pred) api.Pred { return app("f", p) })
	if got := Apps(deep); len(got) != 1000 || !equal(got[0], app("f", x("x"))) || !equal(got[999], deep) {
		t.Errorf("%d applications", len(got))
	}
}
