package pred

import (
	"fmt"
	"math"
	"math/rand"
	"slices"
	"strings"
	"testing"

	"liquidcheck/api"
)

// P7.1

func checkCheck(t *testing.T, what string, p api.Pred, want api.Errno) {
	t.Helper()
	if got := Check(p); got != want {
		t.Errorf("%s: %d, but it is %d", what, got, want)
	}
}

// rightNode returns a node of a kind that Check accepts.
func rightNode(op api.POp) api.Pred {
	switch op {
	case api.PInt, api.PBool:
		return api.Pred{Op: op, N: 1}
	case api.PVar:
		return x("x")
	case api.PApp, api.PHole:
		return api.Pred{Op: op, Name: "f", Kids: preds(x("x"), integer(1))}
	case api.PNeg, api.PNot:
		return node(op, x("x"))
	}
	return node(op, integer(2), x("y"))
}

// fault is an error that a node can have, and what makes it.
type fault struct {
	what string
	e    api.Errno
	make func(p *api.Pred)
}

// faults are the errors that a node of a kind can have.
func faults(op api.POp) []fault {
	named, numbered, counted := api.ErrArg, api.ErrArg, api.ErrArg
	if isNamed(op) {
		named = api.ErrName
	}
	if isNumbered(op) {
		numbered = api.ErrRange
	}
	l := []fault{
		{"no kind", counted, func(p *api.Pred) { p.Op = 0 }},
		{"an unknown kind", counted, func(p *api.Pred) { p.Op = 19 }},
		{"a keyword as name", named, func(p *api.Pred) { p.Name = "and" }},
		{"a great number", numbered, func(p *api.Pred) { p.N = api.MaxInt + 1 }},
		{"a small number", numbered, func(p *api.Pred) { p.N = -api.MaxInt - 1 }},
		{"too many kids", counted, func(p *api.Pred) { p.Kids = append(slices.Clone(p.Kids), many(25, x("x"))...) }},
	}
	if isNamed(op) {
		l = append(l, fault{"no name", api.ErrName, func(p *api.Pred) { p.Name = "" }})
	} else {
		l = append(l, fault{"a name", api.ErrArg, func(p *api.Pred) { p.Name = "x" }})
	}
	if !isNumbered(op) {
		l = append(l, fault{"a number", api.ErrArg, func(p *api.Pred) { p.N = 1 }})
	}
	if least, _ := kidsOf(op); least > 0 {
		l = append(l, fault{"too few kids", api.ErrArg, func(p *api.Pred) { p.Kids = p.Kids[:least-1] }})
	}
	if op == api.PMul {
		l = append(l, fault{"no number as first kid", api.ErrForm, func(p *api.Pred) { p.Kids = append(preds(x("x")), p.Kids[1:]...) }})
	}
	return l
}

// errorOrder is the order of the errors of a node.
var errorOrder = []api.Errno{api.ErrArg, api.ErrRange, api.ErrName, api.ErrForm}

// wrongNode is a node, and its error.
type wrongNode struct {
	p api.Pred
	e api.Errno
}

// wrongNodes are nodes of each kind with each error.
func wrongNodes() []wrongNode {
	var l []wrongNode
	for op := api.POp(1); op <= lastOp; op++ {
		for _, f := range faults(op) {
			p := rightNode(op)
			f.make(&p)
			l = append(l, wrongNode{p, f.e})
		}
	}
	return l
}

func TestCheckAcceptsEachKind(t *testing.T) {
	for op := api.POp(1); op <= lastOp; op++ {
		checkCheck(t, fmt.Sprintf("kind %d", op), rightNode(op), api.OK)
		checkCheck(t, fmt.Sprintf("kids of kind %d", op), and(rightNode(op), app("f", rightNode(op))), api.OK)
	}
}

func TestCheckOfOneNodeReturnsItsFirstError(t *testing.T) {
	seen := map[[2]api.Errno]bool{}
	for op := api.POp(1); op <= lastOp; op++ {
		for _, a := range faults(op) {
			p := rightNode(op)
			a.make(&p)
			checkCheck(t, fmt.Sprintf("kind %d: %s", op, a.what), p, a.e)
			for _, b := range faults(op) {
				q := rightNode(op)
				a.make(&q)
				b.make(&q)
				first := errorOrder[min(slices.Index(errorOrder, a.e), slices.Index(errorOrder, b.e))]
				seen[[2]api.Errno{a.e, b.e}] = true
				checkCheck(t, fmt.Sprintf("kind %d: %s and %s", op, a.what, b.what), q, first)
			}
		}
	}
	// No node can have two of the other errors, as a kind uses either a name or a number, or is PMul, or none of these.
	for _, e := range errorOrder {
		if !seen[[2]api.Errno{api.ErrArg, e}] || !seen[[2]api.Errno{e, api.ErrArg}] {
			t.Errorf("no node has the errors %d and %d", api.ErrArg, e)
		}
	}
}

func TestCheckOfTwoNodesReturnsTheErrorOfTheFirstOne(t *testing.T) {
	for _, a := range wrongNodes() {
		for _, b := range wrongNodes() {
			what := show(a.p) + " and " + show(b.p)
			checkCheck(t, what+": side by side", and(a.p, b.p), a.e)
			checkCheck(t, what+": apart", app("f", x("x"), not(a.p), integer(1), not(b.p)), a.e)
			checkCheck(t, what+": the first one deeper", hole("k", not(not(a.p)), b.p), a.e)
			checkCheck(t, what+": the second one deeper", node(api.PAdd, a.p, node(api.PMul, integer(1), b.p)), a.e)
			if n := len(a.p.Kids); n > 0 {
				above := a.p
				above.Kids = append(slices.Clone(a.p.Kids[:n-1]), b.p)
				checkCheck(t, what+": one above the other", not(above), a.e)
			}
		}
	}
}

func TestCheckOfUnknownKinds(t *testing.T) {
	for _, op := range []api.POp{math.MinInt, -19, -1, 0, 19, 20, 256 + api.PVar, 1<<32 + api.PNot, math.MaxInt} {
		for _, name := range []string{"", "x", "and"} {
			for _, n := range []int{0, 1, math.MaxInt} {
				for kids := range 4 {
					p := api.Pred{Op: op, Name: name, N: n, Kids: many(kids, x("x"))}
					checkCheck(t, show(p), p, api.ErrArg)
					checkCheck(t, "not "+show(p), not(p), api.ErrArg)
				}
			}
		}
	}
}

func TestCheckOfFieldsThatAKindDoesNotUse(t *testing.T) {
	for op := api.POp(1); op <= lastOp; op++ {
		for _, name := range []string{"x", "v", "tag", "f.0", " ", "\x00", "and"} {
			p := rightNode(op)
			p.Name = name
			if !isNamed(op) {
				checkCheck(t, show(p), p, api.ErrArg)
			}
		}
		for _, n := range []int{1, -1, 2, 1 << 32, math.MaxInt, math.MinInt} {
			p := rightNode(op)
			p.N = n
			if !isNumbered(op) {
				checkCheck(t, show(p), p, api.ErrArg)
			}
		}
	}
}

func TestCheckCountsTheKids(t *testing.T) {
	for op := api.POp(1); op <= lastOp; op++ {
		least, most := kidsOf(op)
		for n := range 30 {
			p := rightNode(op)
			p.Kids = many(n, integer(1))
			want := api.ErrArg
			if least <= n && n <= most {
				want = api.OK
			}
			checkCheck(t, fmt.Sprintf("kind %d with %d kids", op, n), p, want)
			if n == 0 {
				p.Kids = nil
				checkCheck(t, fmt.Sprintf("kind %d with nil", op), p, want)
			}
		}
		p := rightNode(op)
		p.Kids = many(399, integer(1))
		checkCheck(t, fmt.Sprintf("kind %d with many kids", op), p, api.ErrArg)
		p.Kids = many(400, integer(1))
		checkCheck(t, fmt.Sprintf("kind %d with too many kids for any", op), p, api.ErrLong)
	}
}

func TestCheckOfNumbers(t *testing.T) {
	for _, n := range []int{0, 1, -1, 2, 5, -5, api.MaxInt - 1, api.MaxInt, -api.MaxInt + 1, -api.MaxInt} {
		checkCheck(t, show(integer(n)), integer(n), api.OK)
		checkCheck(t, "f of "+show(integer(n)), app("f", integer(n)), api.OK)
	}
	for _, n := range []int{api.MaxInt + 1, -api.MaxInt - 1, 2 * api.MaxInt, math.MaxInt, math.MinInt, math.MinInt + 1} {
		checkCheck(t, show(integer(n)), integer(n), api.ErrRange)
		checkCheck(t, "f of "+show(integer(n)), app("f", integer(n)), api.ErrRange)
	}
	checkCheck(t, "true", yes, api.OK)
	checkCheck(t, "false", no, api.OK)
	for _, n := range []int{-1, 2, 3, -2, 10, 256, 257, 1 << 32, 1<<32 + 1, api.MaxInt, api.MaxInt + 1, math.MaxInt, math.MinInt} {
		checkCheck(t, show(boolean(n)), boolean(n), api.ErrRange)
		checkCheck(t, "not "+show(boolean(n)), not(boolean(n)), api.ErrRange)
	}
}

// checkNames checks a name of a variable, of an application and of an unknown predicate.
func checkNames(t *testing.T, s string, ofVar, ofApp, ofHole api.Errno) {
	t.Helper()
	checkCheck(t, "the variable "+s, x(s), ofVar)
	checkCheck(t, "the application "+s, app(s, integer(1)), ofApp)
	checkCheck(t, "the unknown predicate "+s, hole(s, integer(1)), ofHole)
	checkCheck(t, "the variable in an application, "+s, app("f", integer(1), x(s)), ofVar)
	checkCheck(t, "the application in an unknown predicate, "+s, hole("f", app(s, integer(1))), ofApp)
	checkCheck(t, "the unknown predicate in a negation, "+s, not(hole(s, integer(1), integer(2))), ofHole)
}

func TestCheckOfNames(t *testing.T) {
	long := strings.Repeat("a", 24) + strings.Repeat("."+strings.Repeat("b", 23), 4)
	for _, s := range []string{"x", "f", "x1", "and_then", "x_", "List", "T2", "X", "List.Int", "f.0", "f.p_1", "x.and", "x.v", "x.tag", "a.val", "v.3", "v.x", "v.v", "v.tag", "vv", "Tag", "V", "tags", "val1", strings.Repeat("a", 24), "A" + strings.Repeat("a", 23), long} {
		checkNames(t, s, api.OK, api.OK, api.OK)
	}
	for _, s := range []string{"", " ", ".", "1", "1x", "_x", "xY", "X_", "x ", " x", "x.", ".x", "v.", "x..y", "x.A_", "x._", "x-y", "Int", "Bool", "Cell", "Fun", "Int.x", "and.x", "tag.x", "val.x", "V_", "\xff", "ä", "x\x00", "x\n", strings.Repeat("a", 25), "A" + strings.Repeat("a", 24), "a." + strings.Repeat("b", 25), long + "b"} {
		checkNames(t, s, api.ErrName, api.ErrName, api.ErrName)
	}
	checkNames(t, "v", api.OK, api.ErrName, api.ErrName)
	checkNames(t, "tag", api.ErrName, api.OK, api.ErrName)
	checkNames(t, "val", api.ErrName, api.OK, api.ErrName)
	for _, s := range keywords {
		checkNames(t, s, api.ErrName, api.ErrName, api.ErrName)
	}
}

func TestCheckOfProducts(t *testing.T) {
	for op := api.POp(1); op <= lastOp; op++ {
		want := api.ErrForm
		if op == api.PInt {
			want = api.OK
		}
		what := fmt.Sprintf("kind %d ", op)
		checkCheck(t, what+"before a variable", node(api.PMul, rightNode(op), x("y")), want)
		checkCheck(t, what+"before a number", node(api.PMul, rightNode(op), integer(2)), want)
		checkCheck(t, what+"after a number", node(api.PMul, integer(2), rightNode(op)), api.OK)
	}
	for _, c := range []wrongNode{
		{node(api.PMul, integer(api.MaxInt), x("y")), api.OK},
		{node(api.PMul, integer(0), integer(0)), api.OK},
		{node(api.PMul, integer(1), node(api.PMul, integer(2), x("y"))), api.OK},
		{node(api.PMul, integer(1), node(api.PMul, x("y"), integer(2))), api.ErrForm},
		{node(api.PMul, node(api.PMul, integer(1), integer(2)), x("y")), api.ErrForm},
		{node(api.PMul, integer(api.MaxInt+1), x("and")), api.ErrRange},
		{node(api.PMul, api.Pred{Op: api.PInt, Name: "x"}, x("and")), api.ErrArg},
		{node(api.PMul, node(api.PInt, x("and")), x("y")), api.ErrArg},
		{node(api.PMul, none, x("y")), api.ErrForm},
		{node(api.PMul, api.Pred{Op: 19}, x("y")), api.ErrForm},
		{node(api.PMul, x("and"), x("y")), api.ErrForm},
		{node(api.PMul, boolean(2), x("y")), api.ErrForm},
		{node(api.PMul, x("y")), api.ErrArg},
		{node(api.PMul, x("y"), x("y"), x("y")), api.ErrArg},
	} {
		checkCheck(t, show(c.p), c.p, c.e)
	}
}

// ofNodes returns an accepted predicate with n nodes, from 3 on, and far fewer levels than there can be.
func ofNodes(n int) api.Pred {
	p := app("f", x("x"))
	n -= 2
	for ; n > 24; n -= 24 {
		p = app("g", append(preds(p), many(23, integer(1))...)...)
	}
	return app("h", append(preds(p), many(n-1, x("y"))...)...)
}

func TestCheckOfAsManyNodesAsThereCanBe(t *testing.T) {
	for n := 3; n <= 500; n++ {
		p := ofNodes(n)
		want := api.OK
		if n > 400 {
			want = api.ErrLong
		}
		if len(preorder(p)) != n {
			t.Fatalf("%d nodes are %d", n, len(preorder(p)))
		}
		checkCheck(t, fmt.Sprintf("%d nodes", n), p, want)
	}
	for _, w := range wrongNodes() {
		rest := ofNodes(399 - len(preorder(w.p)))
		checkCheck(t, "400 nodes, of which the last ones are "+show(w.p), and(rest, w.p), w.e)
		checkCheck(t, "400 nodes, of which the first ones are "+show(w.p), and(w.p, rest), w.e)
		rest = ofNodes(400 - len(preorder(w.p)))
		checkCheck(t, "401 nodes, of which the last ones are "+show(w.p), and(rest, w.p), api.ErrLong)
		checkCheck(t, "401 nodes, of which the first ones are "+show(w.p), and(w.p, rest), api.ErrLong)
		above := w.p
		above.Kids = preds(ofNodes(400))
		checkCheck(t, "too many nodes below "+show(w.p), above, api.ErrLong)
	}
}

func TestCheckOfMoreNodesThanCanBeCounted(t *testing.T) {
	p := chain(200, x("x"), func(p api.Pred) api.Pred { return and(p, p) })
	checkCheck(t, "right ones", p, api.ErrLong)
	checkCheck(t, "behind a wrong one", and(none, p), api.ErrLong)
	checkCheck(t, "below a wrong one", node(77, p, p, p), api.ErrLong)
}

// towers put one more level around a predicate.
var towers = []func(api.Pred) api.Pred{
	not,
	func(p api.Pred) api.Pred { return node(api.PNeg, p) },
	func(p api.Pred) api.Pred { return and(p, x("x")) },
	func(p api.Pred) api.Pred { return node(api.PImp, x("x"), p) },
	func(p api.Pred) api.Pred { return node(api.PMul, integer(1), p) },
	func(p api.Pred) api.Pred { return app("f", p) },
	func(p api.Pred) api.Pred { return app("f", x("x"), p, x("x")) },
	func(p api.Pred) api.Pred { return hole("k", x("x"), x("x"), p) },
}

func TestCheckOfAsManyLevelsAsThereCanBe(t *testing.T) {
	for i, f := range towers {
		for n, want := range map[int]api.Errno{1: api.OK, 2: api.OK, 39: api.OK, 40: api.OK, 41: api.ErrDeep, 42: api.ErrDeep, 60: api.ErrDeep, 1000: api.ErrLong} {
			checkCheck(t, fmt.Sprintf("tower %d of %d levels", i, n), chain(n-1, x("x"), f), want)
		}
		for _, w := range wrongNodes() {
			what := fmt.Sprintf("tower %d with %s: ", i, show(w.p))
			p := chain(40-levels(w.p), w.p, f)
			checkCheck(t, what+"40 levels, the last ones", p, w.e)
			checkCheck(t, what+"41 levels, the last ones", f(p), api.ErrDeep)
			checkCheck(t, what+"40 levels, beside them", and(w.p, chain(38, x("x"), f)), w.e)
			checkCheck(t, what+"41 levels, beside them", and(w.p, chain(39, x("x"), f)), api.ErrDeep)
			checkCheck(t, what+"41 levels, behind them", and(chain(39, x("x"), f), w.p), api.ErrDeep)
		}
	}
	p := chain(39, x("x"), towers[2])
	checkCheck(t, "41 levels and 400 nodes", and(p, ofNodes(320)), api.ErrDeep)
	checkCheck(t, "41 levels and 401 nodes", and(p, ofNodes(321)), api.ErrLong)
	checkCheck(t, "41 levels, 401 nodes and a wrong one", node(77, p, ofNodes(321)), api.ErrLong)
}

// spoilt changes a field of some nodes, so that they are wrong, or others.
func spoilt(r *rand.Rand, p api.Pred) api.Pred {
	q := api.Pred{Op: p.Op, Name: p.Name, N: p.N}
	for _, k := range p.Kids {
		q.Kids = append(q.Kids, spoilt(r, k))
	}
	if r.Intn(20) != 0 {
		return q
	}
	switch r.Intn(5) {
	case 0:
		q.Op = api.POp(r.Intn(20))
	case 1:
		q.Name = pick(r, "", "x", "v", "tag", "val", "and", "List.Int", "Int", "x.")
	case 2:
		q.N = pick(r, 0, 1, 2, api.MaxInt, api.MaxInt+1)
	case 3:
		q.Kids = append(q.Kids, x("x"))
	case 4:
		q.Kids = q.Kids[:len(q.Kids)/2]
	}
	return q
}

func TestCheckOfDrawnPredicates(t *testing.T) {
	seen := map[api.Errno]int{}
	drawn(71, func(r *rand.Rand, p api.Pred) {
		if r.Intn(2) == 0 {
			p = spoilt(r, p)
		}
		if r.Intn(100) == 0 {
			p = chain(r.Intn(pick(r, 50, 300)), p, pick(r, towers...))
		}
		want := expectedCheck(p)
		seen[want]++
		if got := Check(p); got != want {
			t.Fatalf("%s: %d, but it is %d", show(p), got, want)
		}
	})
	for _, e := range append(errorOrder, api.OK, api.ErrLong, api.ErrDeep) {
		if seen[e] < 50 {
			t.Errorf("only %d predicates had the error %d", seen[e], e)
		}
	}
}
