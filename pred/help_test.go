package pred

import (
	"math/rand"
	"regexp"
	"slices"
	"strconv"
	"strings"
	"testing"

	"liquidcheck/api"
)

// The tests' own predicates

func integer(k int) api.Pred                  { return api.Pred{Op: api.PInt, N: k} }
func boolean(k int) api.Pred                  { return api.Pred{Op: api.PBool, N: k} }
func x(s string) api.Pred                     { return api.Pred{Op: api.PVar, Name: s} }
func app(s string, l ...api.Pred) api.Pred    { return api.Pred{Op: api.PApp, Name: s, Kids: l} }
func hole(s string, l ...api.Pred) api.Pred   { return api.Pred{Op: api.PHole, Name: s, Kids: l} }
func node(op api.POp, l ...api.Pred) api.Pred { return api.Pred{Op: op, Kids: l} }
func and(a, b api.Pred) api.Pred              { return node(api.PAnd, a, b) }
func not(a api.Pred) api.Pred                 { return node(api.PNot, a) }
func preds(l ...api.Pred) []api.Pred          { return l }
func many(n int, p api.Pred) []api.Pred       { return slices.Repeat(preds(p), n) }

// chain puts n nodes around p.
func chain(n int, p api.Pred, f func(api.Pred) api.Pred) api.Pred {
	for range n {
		p = f(p)
	}
	return p
}

// The predicates that have a meaning of their own, where one is optional.
var (
	yes  = boolean(1)
	no   = boolean(0)
	none = api.Pred{}
)

// lastOp is the greatest kind; the least one is 1.
const lastOp = api.PIff

// show writes all parts of predicates, so that they are the same exactly if their texts are.
func show(l ...api.Pred) string {
	var b strings.Builder
	var write func(p api.Pred)
	write = func(p api.Pred) {
		b.WriteString(strconv.Itoa(int(p.Op)) + strconv.Quote(p.Name) + strconv.Itoa(p.N) + "[")
		for _, k := range p.Kids {
			write(k)
		}
		b.WriteString("]")
	}
	for _, p := range l {
		write(p)
		b.WriteString(";")
	}
	return b.String()
}

func equal(a, b api.Pred) bool { return show(a) == show(b) }

func checkPred(t *testing.T, what string, got, want api.Pred) {
	t.Helper()
	if !equal(got, want) {
		t.Errorf("%s: %s, but it is %s", what, show(got), show(want))
	}
}

func checkPreds(t *testing.T, what string, got, want []api.Pred) {
	t.Helper()
	if show(got...) != show(want...) {
		t.Errorf("%s: %s, but it is %s", what, show(got...), show(want...))
	}
}

// other returns p in other memory, with empty lists in place of nil, and nil in place of empty lists.
func other(p api.Pred) api.Pred {
	if p.Kids == nil {
		p.Kids = preds()
		return p
	}
	if len(p.Kids) == 0 {
		p.Kids = nil
		return p
	}
	p.Kids = slices.Clone(p.Kids)
	for i, k := range p.Kids {
		p.Kids[i] = other(k)
	}
	return p
}

// What the chapter says, once more and in other words

// preorder returns the nodes in the order of nodes.
func preorder(p api.Pred) []api.Pred {
	l := preds(p)
	for _, k := range p.Kids {
		l = append(l, preorder(k)...)
	}
	return l
}

// postorder returns the nodes inner first.
func postorder(p api.Pred) []api.Pred {
	var l []api.Pred
	for _, k := range p.Kids {
		l = append(l, postorder(k)...)
	}
	return append(l, p)
}

func levels(p api.Pred) int {
	n := 1
	for _, k := range p.Kids {
		n = max(n, 1+levels(k))
	}
	return n
}

var corePattern = regexp.MustCompile(`\A([a-z][a-z0-9_]{0,23}|[A-Z][a-zA-Z0-9]{0,23})(\.([a-zA-Z0-9]{1,24}|[a-z][a-z0-9_]{0,23}))*\z`)

// keywords are all of them but v, tag and val.
var keywords = strings.Fields("and assume bool bound case cell class data def div else end false forall fun get if in inst int invariant let match measure metric mod mu new not of or qual reflect set then true use where with")

// isCoreName follows chapter 4.
func isCoreName(s string) bool {
	first, _, parted := strings.Cut(s, ".")
	switch first {
	case "tag", "val", "Int", "Bool", "Cell", "Fun":
		return false
	case "v":
		if !parted {
			return false
		}
	}
	return len(s) <= 120 && corePattern.MatchString(s) && !slices.Contains(keywords, first)
}

// kidsOf returns how many kids nodes of a kind have, at least and at most.
func kidsOf(op api.POp) (int, int) {
	switch op {
	case api.PInt, api.PBool, api.PVar:
		return 0, 0
	case api.PApp, api.PHole:
		return 1, 24
	case api.PNeg, api.PNot:
		return 1, 1
	}
	return 2, 2
}

// isNamed reports whether nodes of a kind use Name, and isNumbered whether they use N.
func isNamed(op api.POp) bool    { return op == api.PVar || op == api.PApp || op == api.PHole }
func isNumbered(op api.POp) bool { return op == api.PInt || op == api.PBool }

// expectedNode is the first error of a node alone.
func expectedNode(p api.Pred) api.Errno {
	least, most := kidsOf(p.Op)
	if p.Op < 1 || p.Op > 18 || !isNamed(p.Op) && p.Name != "" || !isNumbered(p.Op) && p.N != 0 || len(p.Kids) < least || len(p.Kids) > most {
		return api.ErrArg
	}
	if p.Op == api.PInt && (p.N < -1000000000000 || p.N > 1000000000000) || p.Op == api.PBool && p.N != 0 && p.N != 1 {
		return api.ErrRange
	}
	special := p.Op == api.PVar && p.Name == "v" || p.Op == api.PApp && (p.Name == "tag" || p.Name == "val")
	if isNamed(p.Op) && !special && !isCoreName(p.Name) {
		return api.ErrName
	}
	if p.Op == api.PMul && p.Kids[0].Op != api.PInt {
		return api.ErrForm
	}
	return api.OK
}

func expectedCheck(p api.Pred) api.Errno {
	l := preorder(p)
	if len(l) > 400 {
		return api.ErrLong
	}
	if levels(p) > 40 {
		return api.ErrDeep
	}
	for _, q := range l {
		if e := expectedNode(q); e != api.OK {
			return e
		}
	}
	return api.OK
}

func expectedFree(p api.Pred) []string {
	var l []string
	for _, q := range preorder(p) {
		if q.Op == api.PVar && !slices.Contains(l, q.Name) {
			l = append(l, q.Name)
		}
	}
	slices.Sort(l)
	return l
}

// expectedOfKind is what Apps and Holes return.
func expectedOfKind(p api.Pred, op api.POp) []api.Pred {
	var l []api.Pred
	for _, q := range postorder(p) {
		if q.Op == op && !slices.ContainsFunc(l, func(earlier api.Pred) bool { return equal(earlier, q) }) {
			l = append(l, q)
		}
	}
	return l
}

func expectedSubst(p api.Pred, names []string, by []api.Pred) api.Pred {
	if p.Op == api.PVar {
		if i := slices.Index(names, p.Name); i >= 0 && i < len(by) {
			return by[i]
		}
	}
	q := api.Pred{Op: p.Op, Name: p.Name, N: p.N}
	for _, k := range p.Kids {
		q.Kids = append(q.Kids, expectedSubst(k, names, by))
	}
	return q
}

func isYes(p api.Pred) bool { return equal(p, yes) || equal(p, none) }
func isNo(p api.Pred) bool  { return equal(p, no) }

func expectedAnd(l []api.Pred) api.Pred {
	if slices.ContainsFunc(l, isNo) {
		return no
	}
	l = slices.DeleteFunc(slices.Clone(l), isYes)
	switch n := len(l); n {
	case 0:
		return yes
	case 1:
		return l[0]
	default:
		return and(expectedAnd(l[:n-1]), l[n-1])
	}
}

func expectedSplit(p api.Pred) []api.Pred {
	if p.Op == api.PAnd && len(p.Kids) == 2 {
		return append(expectedSplit(p.Kids[0]), expectedSplit(p.Kids[1])...)
	}
	if isYes(p) {
		return nil
	}
	return preds(p)
}

func expectedNot(p api.Pred) api.Pred {
	if p.Op == api.PNot && len(p.Kids) == 1 {
		return p.Kids[0]
	}
	if isYes(p) {
		return no
	}
	if isNo(p) {
		return yes
	}
	return not(p)
}

func expectedFill(p api.Pred, holes []api.Hole, l []api.Sol) api.Pred {
	q := api.Pred{Op: p.Op, Name: p.Name, N: p.N}
	for _, k := range p.Kids {
		q.Kids = append(q.Kids, expectedFill(k, holes, l))
	}
	if p.Op != api.PHole {
		return q
	}
	i := slices.IndexFunc(holes, func(h api.Hole) bool { return h.Name == p.Name })
	j := slices.IndexFunc(l, func(s api.Sol) bool { return s.Name == p.Name })
	if i < 0 || j < 0 || equal(l[j].Pred, none) {
		return yes
	}
	var params []string
	for _, y := range holes[i].Params {
		params = append(params, y.Name)
	}
	return expectedSubst(l[j].Pred, params, q.Kids)
}

// Predicates to look at

// trees passes all predicates with n nodes on to f; the nodes have the fields of some of the labels.
func trees(n int, labels []api.Pred, f func(api.Pred)) {
	for _, p := range labels {
		forests(n-1, labels, func(l []api.Pred) {
			f(api.Pred{Op: p.Op, Name: p.Name, N: p.N, Kids: l})
		})
	}
}

// forests passes all lists of predicates that have n nodes in all on to f.
func forests(n int, labels []api.Pred, f func([]api.Pred)) {
	if n == 0 {
		f(nil)
		return
	}
	for first := 1; first <= n; first++ {
		trees(first, labels, func(p api.Pred) {
			forests(n-first, labels, func(l []api.Pred) { f(append(preds(p), l...)) })
		})
	}
}

// small passes all predicates of few nodes on to f: of one and two nodes with many fields that are set rightly or wrongly, of three and four nodes with few fields.
func small(f func(api.Pred)) {
	few := preds(yes, no, none, x("x"), x("y"), app("f"), hole("k"), node(api.PAnd), node(api.PNot), node(api.PMul))
	lots := slices.Clone(few)
	for _, op := range []api.POp{-1, api.PInt, api.PBool, api.PVar, api.PApp, api.PHole, api.PMul, api.PNot, api.PAnd, 19} {
		for _, name := range []string{"", "x", "tag"} {
			for n := range 3 {
				lots = append(lots, api.Pred{Op: op, Name: name, N: n})
			}
		}
	}
	trees(1, lots, f)
	trees(2, lots, f)
	trees(3, few, f)
	trees(4, few, f)
}

func pick[T any](r *rand.Rand, l ...T) T { return l[r.Intn(len(l))] }

// anyPred draws a predicate of up to n levels, rightly made or not. The choices are few, so that the same parts come again.
func anyPred(r *rand.Rand, n int) api.Pred {
	if n == 1 {
		return pick(r, yes, no, none, boolean(2), integer(r.Intn(3)), x(pick(r, "x", "y", "z", "v")), x("x"), x(""), app("f"), hole("k"), node(api.PAnd), not(none), api.Pred{Op: api.PBool, N: 1, Name: "x"}, api.Pred{Op: api.PVar, Name: "x", N: 1})
	}
	p := node(pick(r, api.PAnd, api.PAnd, api.PAnd, api.PNot, api.PMul, api.PVar, api.POp(r.Intn(21)-1)))
	if r.Intn(2) == 0 {
		p = pick(r, app(pick(r, "f", "g", "x")), hole(pick(r, "k", "j", "i", "h")))
	}
	if r.Intn(8) == 0 {
		p.Name, p.N = pick(r, "", "x", "k"), r.Intn(2)
	}
	kids := 1 + r.Intn(2)
	if r.Intn(8) == 0 {
		kids = r.Intn(4)
	}
	for range kids {
		p.Kids = append(p.Kids, anyPred(r, 1+r.Intn(n-1)))
	}
	return p
}

// rightPred draws a predicate of up to n levels that Check accepts, unless it has too many nodes.
func rightPred(r *rand.Rand, n int) api.Pred {
	if n == 1 {
		return pick(r, yes, no, integer(r.Intn(7)-3), integer(-api.MaxInt), x(pick(r, "x", "y", "z", "v", "x.1")), x("x"))
	}
	kid := func() api.Pred { return rightPred(r, 1+r.Intn(n-1)) }
	switch op := api.POp(1 + r.Intn(int(lastOp))); op {
	case api.PInt, api.PBool, api.PVar:
		return and(kid(), kid())
	case api.PApp, api.PHole:
		p := api.Pred{Op: op, Name: pick(r, "f", "g", "x", "k")}
		for range 1 + r.Intn(3) {
			p.Kids = append(p.Kids, kid())
		}
		return p
	case api.PNeg, api.PNot:
		return node(op, kid())
	case api.PMul:
		return node(op, integer(r.Intn(5)-2), kid())
	default:
		return node(op, kid(), kid())
	}
}

// accepted draws a predicate that Check accepts.
func accepted(r *rand.Rand) api.Pred {
	for {
		if p := rightPred(r, 1+r.Intn(6)); expectedCheck(p) == api.OK {
			return p
		}
	}
}

// drawn passes small predicates, and drawn ones of all sorts, on to f.
func drawn(seed int64, f func(r *rand.Rand, p api.Pred)) {
	r := rand.New(rand.NewSource(seed))
	small(func(p api.Pred) { f(r, p) })
	for range 10000 {
		f(r, anyPred(r, 1+r.Intn(8)))
		f(r, rightPred(r, 1+r.Intn(8)))
	}
}
