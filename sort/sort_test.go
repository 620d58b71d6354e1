package sort

import (
	"fmt"
	"math"
	"math/rand"
	"reflect"
	"regexp"
	"slices"
	"strings"
	"testing"

	"liquidcheck/api"
)

// The forms of the chapters 4 and 6, but for keywords, the basic types and the length of core names.
var (
	startForm = regexp.MustCompile(`\A([a-z][a-z0-9_]{0,23}|[A-Z][A-Za-z0-9]{0,23})\z`)
	partsForm = regexp.MustCompile(`\A(\.([a-zA-Z0-9]{1,24}|[a-z][a-z0-9_]{0,23}))*\z`)
	largeForm = regexp.MustCompile(`\A[A-Z]`)
)

// allKeywords are the keywords as chapter 4 lists them.
const allKeywords = "and assume bool bound case cell class data def div else end false forall fun get if in inst int invariant let match measure metric mod mu new not of or qual reflect set then true use v val tag where with"

// isCore tells core names by the definition of chapter 4.
func isCore(s string) bool {
	start, parts := s, ""
	if i := strings.IndexByte(s, '.'); i >= 0 {
		start, parts = s[:i], s[i:]
	}
	if len(s) > 120 || !startForm.MatchString(start) || !partsForm.MatchString(parts) {
		return false
	}
	if start == "v" {
		return parts != ""
	}
	return !slices.Contains(strings.Fields(allKeywords+" Int Bool Cell Fun"), start)
}

func isSort(s api.Sort) bool {
	return s == "Int" || s == "Bool" || s == "Cell" || isCore(string(s)) && largeForm.MatchString(string(s))
}

// texts calls f with all texts of up to n symbols.
func texts(symbols []string, n int, f func(string)) {
	var add func(s string, n int)
	add = func(s string, n int) {
		f(s)
		if n == 0 {
			return
		}
		for _, c := range symbols {
			add(s+c, n-1)
		}
	}
	add("", n)
}

// long120 is a core name with 120 bytes that begins with start.
func long120(start string) string {
	s := start
	for len(s) < 117 {
		s += ".0"
	}
	return s + "." + strings.Repeat("0", 119-len(s))
}

// P6.1

func TestCheckTellsSorts(t *testing.T) {
	for _, c := range []struct {
		want  api.Errno
		texts string
	}{
		{api.OK, "Int Bool Cell"},
		{api.OK, "List T2 Nil A INT Ints Boolean Cells Funny V Val Tag"},
		{api.OK, "List.Int List.0 T.x_1 A.v List.and Pair.Int.Bool T.f.0 List.Fun A.Int A.0x A.b.C.d"},
		{api.ErrSort, "Fun Int.x Int.Int Bool.0 Cell.Cell Fun.f L_1 L_ List. List..Int List.P_1 List._x A.0_"},
		{api.ErrSort, "list int bool cell x x1 x.Y f.0 list.Int a.List vx v.List v.0 v.v"},
		{api.ErrSort, "v val tag and of data fun true . .. .A .List 1 1A _A _ 0 - List-Int List,Int List[Int] (List) !"},
	} {
		for _, s := range strings.Fields(c.texts) {
			if got := Check(api.Sort(s)); got != c.want {
				t.Errorf("%q: %d, but it is %d", s, got, c.want)
			}
		}
	}
	for _, s := range []api.Sort{"", " ", " Int", "Int ", "List ", "List Int", "List\n", "\nList", "List\x00", "\x00", "É", "Té", "Ａ", "Σ", "\xffA", "A\xff", "A.\x80", "A.é"} {
		if got := Check(s); got != api.ErrSort {
			t.Errorf("%q: %d", s, got)
		}
	}
}

func TestCheckOfLongSorts(t *testing.T) {
	title := "T" + strings.Repeat("t", api.MaxName-1)
	for _, c := range []struct {
		s    string
		want api.Errno
	}{
		{title, api.OK}, {title + "t", api.ErrSort}, {title + ".x", api.OK}, {title + "t.x", api.ErrSort},
		{"A." + title, api.OK}, {"A." + title + "t", api.ErrSort},
		{long120("List"), api.OK}, {long120("List") + "0", api.ErrSort}, {long120(title), api.OK}, {long120(title) + "0", api.ErrSort},
		{long120("list"), api.ErrSort}, {long120("v"), api.ErrSort}, {long120("A")[:119], api.OK}, {"A" + strings.Repeat(".b", 59), api.OK},
		{"A" + strings.Repeat(".b", 59) + "b", api.OK}, {"A" + strings.Repeat(".b", 60), api.ErrSort}, {strings.Repeat("A", 1<<16), api.ErrSort}, {strings.Repeat("A.", 1<<16), api.ErrSort},
	} {
		if got := Check(api.Sort(c.s)); got != c.want {
			t.Errorf("%d bytes %.130q: %d", len(c.s), c.s, got)
		}
	}
	if len(long120("List")) != 120 || len(long120(title)) != 120 || len(long120("A")) != 120 {
		t.Error("the texts of this test have other lengths")
	}
}

func TestCheckOfAllShortTexts(t *testing.T) {
	check := func(s string) {
		want := api.ErrSort
		if isSort(api.Sort(s)) {
			want = api.OK
		}
		if got := Check(api.Sort(s)); got != want {
			t.Errorf("%q: %d, but it is %d", s, got, want)
		}
	}
	texts([]string{"a", "v", "Z", "0", "_", ".", "-"}, 5, check)
	texts([]string{"v", "Int", "Bool", "Cell", "Fun", "List", "x9", "7", ".", "_"}, 4, check)
	for b := range 256 {
		for _, form := range []string{"?", "T?", "?T", "T?t", "T.?", "T.?y", "T.y?", "Int?", "?Int"} {
			check(strings.ReplaceAll(form, "?", string([]byte{byte(b)})))
		}
	}
	for _, s := range strings.Fields(allKeywords) {
		check(s)
		check(s + ".A")
		check("A." + s)
		check(strings.ToUpper(s[:1]) + s[1:])
	}
}

// Names and sorts that are right and wrong.
var (
	goodNames = []string{"x", "and_then", "List", "List.Int", "f.0", "v.3", "x.v", "a.and", long120("f"), "T" + strings.Repeat("t", api.MaxName-1)}
	badNames  = []string{"", "v", "tag", "val", "and", "Int", "Fun", "xY", "L_1", "1x", "x.", ".x", "a..b", "Int.x", "tag.x", "x ", "é", "\xff", long120("f") + "0", strings.Repeat("x", api.MaxName+1)}
	goodSorts = []api.Sort{"Int", "Bool", "Cell", "List", "List.Int", api.Sort(long120("T"))}
	badSorts  = []api.Sort{"", "int", "list", "v", "Fun", "Int.x", "List.", "L_1", "x.Y", " ", "\xff", api.Sort(long120("T") + "0")}
)

// P6.2

// sorts returns n right sorts, but for one wrong one at the index wrong, if there is such an index.
func sorts(n, wrong int) []api.Sort {
	l := make([]api.Sort, n)
	for i := range l {
		l[i] = goodSorts[i%len(goodSorts)]
		if i == wrong {
			l[i] = badSorts[i%len(badSorts)]
		}
	}
	return l
}

func TestSymReturnsTheFirstError(t *testing.T) {
	for name, wrongName := range map[string]bool{"len": false, "List": false, "f.0": false, "v.1": false, "v": true, "tag": true, "val": true, "and": true, "": true, "Int": true} {
		for _, n := range []int{0, 1, 2, api.MaxArgs - 1, api.MaxArgs, api.MaxArgs + 1, api.MaxArgs + 2, 1000} {
			for wrong := -1; wrong < min(n, 10); wrong++ {
				for result, wrongResult := range map[api.Sort]bool{"Int": false, "List": false, "": true, "list": true} {
					want := api.OK
					switch {
					case wrongName:
						want = api.ErrName
					case n == 0 || n > api.MaxArgs:
						want = api.ErrArity
					case wrong >= 0 || wrongResult:
						want = api.ErrSort
					}
					if got := Sym(api.Sym{Name: name, Args: sorts(n, wrong), Result: result}); got != want {
						t.Errorf("%q with %d arguments, a wrong one at %d, to %q: %d, but it is %d", name, n, wrong, result, got, want)
					}
				}
			}
		}
	}
	if got := Sym(api.Sym{}); got != api.ErrName {
		t.Errorf("the zero symbol: %d", got)
	}
	if got := Sym(api.Sym{Name: "f", Args: []api.Sort{}, Result: "Int"}); got != api.ErrArity {
		t.Errorf("no arguments: %d", got)
	}
}

func TestSymLooksAtEachNameAndSort(t *testing.T) {
	check := func(s api.Sym, want api.Errno) {
		t.Helper()
		if got := Sym(s); got != want {
			t.Errorf("%q: %d, but it is %d", s, got, want)
		}
	}
	for _, s := range goodNames {
		check(api.Sym{Name: s, Args: sorts(1, -1), Result: "Int"}, api.OK)
	}
	for _, s := range badNames {
		check(api.Sym{Name: s, Args: sorts(1, -1), Result: "Int"}, api.ErrName)
	}
	for place := range api.MaxArgs + 1 {
		with := func(s api.Sort) api.Sym {
			l := append(sorts(api.MaxArgs, -1), "Int")
			l[place] = s
			return api.Sym{Name: "f", Args: l[:api.MaxArgs], Result: l[api.MaxArgs]}
		}
		for _, s := range goodSorts {
			check(with(s), api.OK)
		}
		for _, s := range badSorts {
			check(with(s), api.ErrSort)
		}
	}
}

// P6.3

// xs returns n variables with different names.
func xs(n int) []api.Var {
	var l []api.Var
	for i := range n {
		l = append(l, api.Var{Name: fmt.Sprint("x", i), Sort: goodSorts[i%len(goodSorts)]})
	}
	return l
}

// fs returns n symbols with different names.
func fs(n int) []api.Sym {
	var l []api.Sym
	for i := range n {
		l = append(l, api.Sym{Name: fmt.Sprint("f", i), Args: sorts(1+i%api.MaxArgs, -1), Result: goodSorts[i%len(goodSorts)]})
	}
	return l
}

// ks returns n holes with different names.
func ks(n int) []api.Hole {
	var l []api.Hole
	for i := range n {
		l = append(l, api.Hole{Name: fmt.Sprint("k.", i), Params: xs(1 + i%api.MaxVars)})
	}
	return l
}

// with returns the elements of l with x at the index i.
func with[T any](l []T, i int, x T) []T {
	out := slices.Clone(l)
	out[i] = x
	return out
}

// list is a part of an environment, and the error that it has.
type list[T any] struct {
	what string
	l    []T
	want api.Errno
}

// varLists are lists of variables with each error alone, and with each pair of errors.
func varLists() []list[api.Var] {
	x := func(name string, s api.Sort) api.Var { return api.Var{Name: name, Sort: s} }
	all := []list[api.Var]{
		{"no variable", nil, api.OK},
		{"an empty list", []api.Var{}, api.OK},
		{"one variable", xs(1), api.OK},
		{"as many as there can be", xs(api.MaxVars), api.OK},
		{"v", []api.Var{x("v", "List")}, api.OK},
		{"v behind another one", []api.Var{x("x", "Int"), x("v", "Int")}, api.OK},
		{"names that are alike", []api.Var{x("x", "Int"), x("x.0", "Int"), x("x0", "Int"), x("X", "Int"), x("v.x", "Int"), x("v", "Int")}, api.OK},
		{"one too many", xs(api.MaxVars + 1), api.ErrLong},
		{"far too many", xs(5000), api.ErrLong},
		{"twice", []api.Var{x("x", "Int"), x("x", "Int")}, api.ErrTwice},
		{"twice, with other sorts", []api.Var{x("x", "Int"), x("x", "Bool")}, api.ErrTwice},
		{"twice, far away", with(xs(api.MaxVars), api.MaxVars-1, x("x0", "Int")), api.ErrTwice},
		{"v twice", []api.Var{x("v", "Int"), x("y", "Int"), x("v", "Int")}, api.ErrTwice},
		{"too many, a wrong name", with(xs(api.MaxVars+1), 0, x("and", "Int")), api.ErrLong},
		{"too many, one twice", with(xs(api.MaxVars+1), 1, x("x0", "Int")), api.ErrLong},
		{"too many, a wrong sort", with(xs(api.MaxVars+1), 0, x("x0", "int")), api.ErrLong},
		{"a wrong name with a wrong sort", []api.Var{x("and", "int")}, api.ErrName},
		{"a wrong name twice", []api.Var{x("and", "Int"), x("and", "Int")}, api.ErrName},
		{"twice with a wrong sort", []api.Var{x("x", "Int"), x("x", "int")}, api.ErrTwice},
		{"a wrong name before twice", []api.Var{x("tag", "Int"), x("x", "Int"), x("x", "Int")}, api.ErrName},
		{"twice before a wrong name", []api.Var{x("x", "Int"), x("x", "Int"), x("tag", "Int")}, api.ErrTwice},
		{"a wrong name before a wrong sort", []api.Var{x("", "Int"), x("y", "")}, api.ErrName},
		{"a wrong sort before a wrong name", []api.Var{x("x", ""), x("", "Int")}, api.ErrSort},
		{"a wrong sort before twice", []api.Var{x("x", "int"), x("x", "Int")}, api.ErrSort},
		{"twice before a wrong sort", []api.Var{x("x", "Int"), x("x", "Int"), x("y", "int")}, api.ErrTwice},
		{"everything wrong", []api.Var{x("", ""), x("", "")}, api.ErrName},
	}
	for _, s := range goodNames {
		all = append(all, list[api.Var]{"the name " + s, []api.Var{x(s, "Int"), x("y", "Int")}, api.OK})
	}
	for _, s := range badNames {
		if s != "v" {
			all = append(all, list[api.Var]{"the name " + s, []api.Var{x("y", "Int"), x(s, "Int")}, api.ErrName})
		}
	}
	for _, s := range goodSorts {
		all = append(all, list[api.Var]{"the sort " + string(s), []api.Var{x("y", "Int"), x("v", s)}, api.OK})
	}
	for _, s := range badSorts {
		all = append(all, list[api.Var]{"the sort " + string(s), []api.Var{x("y", "Int"), x("v", s)}, api.ErrSort})
	}
	return all
}

// symLists are lists of symbols with each error alone, and with each pair of errors.
func symLists() []list[api.Sym] {
	f := func(name string, args int, s api.Sort) api.Sym {
		return api.Sym{Name: name, Args: sorts(args, -1), Result: s}
	}
	good, name, arity, wrong := f("f", 1, "Int"), f("v", 1, "Int"), f("f", 0, "Int"), f("f", 1, "int")
	last := api.MaxDecls - 1
	all := []list[api.Sym]{
		{"no symbol", nil, api.OK},
		{"an empty list", []api.Sym{}, api.OK},
		{"one symbol", fs(1), api.OK},
		{"as many as there can be", fs(api.MaxDecls), api.OK},
		{"names that are alike", []api.Sym{good, f("f.0", 1, "Int"), f("f0", 1, "Int"), f("F", 1, "Int"), f("v.f", 1, "Int")}, api.OK},
		{"one too many", fs(api.MaxDecls + 1), api.ErrLong},
		{"far too many", fs(5000), api.ErrLong},
		{"v", []api.Sym{good, name}, api.ErrName},
		{"tag", []api.Sym{f("tag", 1, "Int")}, api.ErrName},
		{"val", []api.Sym{{Name: "val", Args: []api.Sort{"Cell"}, Result: "Int"}}, api.ErrName},
		{"no arguments", []api.Sym{arity}, api.ErrArity},
		{"too many arguments", with(fs(api.MaxDecls), last, f("g", api.MaxArgs+1, "Int")), api.ErrArity},
		{"a wrong argument", []api.Sym{fs(1)[0], {Name: "f", Args: sorts(3, 2), Result: "Int"}}, api.ErrSort},
		{"a wrong result", with(fs(api.MaxDecls), last, f("g", 1, "L_1")), api.ErrSort},
		{"twice", []api.Sym{good, good}, api.ErrTwice},
		{"twice, with other sorts", []api.Sym{good, f("f", 2, "List")}, api.ErrTwice},
		{"twice, far away", with(fs(api.MaxDecls), last, f("f0", 1, "Int")), api.ErrTwice},
		{"too many, a wrong name", with(fs(api.MaxDecls+1), 0, name), api.ErrLong},
		{"too many, no arguments", with(fs(api.MaxDecls+1), 0, arity), api.ErrLong},
		{"too many, a wrong sort", with(fs(api.MaxDecls+1), 0, wrong), api.ErrLong},
		{"too many, one twice", with(fs(api.MaxDecls+1), 1, f("f0", 1, "Int")), api.ErrLong},
		{"a wrong name twice", []api.Sym{name, name}, api.ErrName},
		{"twice without arguments", []api.Sym{good, arity}, api.ErrArity},
		{"twice with too many arguments", []api.Sym{good, f("f", api.MaxArgs+1, "Int")}, api.ErrArity},
		{"twice with a wrong sort", []api.Sym{good, wrong}, api.ErrSort},
		{"no arguments twice", []api.Sym{arity, arity}, api.ErrArity},
		{"no arguments before a wrong name", []api.Sym{arity, name}, api.ErrArity},
		{"no arguments before twice", []api.Sym{arity, good, good}, api.ErrArity},
		{"a wrong name before no arguments", []api.Sym{name, arity}, api.ErrName},
		{"a wrong name before a wrong sort", []api.Sym{name, wrong}, api.ErrName},
		{"a wrong name before twice", []api.Sym{name, good, good}, api.ErrName},
		{"a wrong sort before a wrong name", []api.Sym{wrong, name}, api.ErrSort},
		{"a wrong sort before no arguments", []api.Sym{wrong, f("g", 0, "Int")}, api.ErrSort},
		{"no arguments before a wrong sort", []api.Sym{f("g", 0, "Int"), wrong}, api.ErrArity},
		{"a wrong sort before twice", []api.Sym{wrong, good}, api.ErrSort},
		{"twice before a wrong name", []api.Sym{good, good, name}, api.ErrTwice},
		{"twice before no arguments", []api.Sym{good, good, f("g", 0, "Int")}, api.ErrTwice},
		{"twice before a wrong sort", []api.Sym{good, good, f("g", 1, "int")}, api.ErrTwice},
	}
	for _, s := range goodNames {
		all = append(all, list[api.Sym]{"the name " + s, []api.Sym{f("g", 1, "Int"), f(s, 1, "Int")}, api.OK})
	}
	for _, s := range badNames {
		all = append(all, list[api.Sym]{"the name " + s, []api.Sym{f("g", 1, "Int"), f(s, 1, "Int")}, api.ErrName})
	}
	return all
}

// holeLists are lists of holes with each error alone, and with each pair of errors.
func holeLists() []list[api.Hole] {
	k := func(name string, params []api.Var) api.Hole { return api.Hole{Name: name, Params: params} }
	x := func(name string, s api.Sort) []api.Var { return []api.Var{{Name: name, Sort: s}} }
	good, name, arity, wrong := k("k", xs(1)), k("v", xs(1)), k("k", nil), k("k", x("x", "int"))
	long := k("k", xs(api.MaxVars+1))
	last := api.MaxHoles - 1
	all := []list[api.Hole]{
		{"no hole", nil, api.OK},
		{"an empty list", []api.Hole{}, api.OK},
		{"one hole", ks(1), api.OK},
		{"as many as there can be", ks(api.MaxHoles), api.OK},
		{"names that are alike", []api.Hole{good, k("k.0", xs(2)), k("k0", xs(3)), k("K", xs(1)), k("v.k", xs(1))}, api.OK},
		{"the same parameters in two holes", []api.Hole{k("k.0", xs(2)), k("k.1", xs(2)), k("k.2", x("v", "Int")), k("k.3", x("v", "Bool"))}, api.OK},
		{"a parameter with the name of the hole", []api.Hole{k("k", x("k", "Int"))}, api.OK},
		{"one too many", ks(api.MaxHoles + 1), api.ErrLong},
		{"far too many", ks(3000), api.ErrLong},
		{"v", []api.Hole{name}, api.ErrName},
		{"tag", []api.Hole{k("tag", xs(1))}, api.ErrName},
		{"twice", []api.Hole{good, good}, api.ErrTwice},
		{"twice, with other parameters", []api.Hole{good, k("k", xs(2))}, api.ErrTwice},
		{"twice, far away", with(ks(api.MaxHoles), last, k("k.0", xs(1))), api.ErrTwice},
		{"no parameters", []api.Hole{arity}, api.ErrArity},
		{"no parameters at the end", with(ks(api.MaxHoles), last, k("j", []api.Var{})), api.ErrArity},
		{"too many parameters at the end", with(ks(api.MaxHoles), last, k("j", xs(api.MaxVars+1))), api.ErrLong},
		{"too many, a wrong name", with(ks(api.MaxHoles+1), 0, name), api.ErrLong},
		{"too many, one twice", with(ks(api.MaxHoles+1), 1, k("k.0", xs(1))), api.ErrLong},
		{"too many, no parameters", with(ks(api.MaxHoles+1), 0, arity), api.ErrLong},
		{"too many, a wrong parameter", with(ks(api.MaxHoles+1), 0, wrong), api.ErrLong},
		{"a wrong name twice", []api.Hole{name, name}, api.ErrName},
		{"a wrong name without parameters", []api.Hole{k("v", nil)}, api.ErrName},
		{"a wrong name with too many parameters", []api.Hole{k("v", xs(api.MaxVars+1))}, api.ErrName},
		{"a wrong name with a wrong parameter", []api.Hole{k("v", x("and", "Int"))}, api.ErrName},
		{"twice without parameters", []api.Hole{good, arity}, api.ErrTwice},
		{"twice with too many parameters", []api.Hole{good, long}, api.ErrTwice},
		{"twice with a wrong parameter", []api.Hole{good, wrong}, api.ErrTwice},
		{"a wrong name before twice", []api.Hole{name, good, good}, api.ErrName},
		{"a wrong name before no parameters", []api.Hole{name, arity}, api.ErrName},
		{"a wrong name before too many parameters", []api.Hole{name, long}, api.ErrName},
		{"a wrong name before a wrong parameter", []api.Hole{name, wrong}, api.ErrName},
		{"twice before a wrong name", []api.Hole{good, good, name}, api.ErrTwice},
		{"twice before no parameters", []api.Hole{good, good, k("j", nil)}, api.ErrTwice},
		{"twice before too many parameters", []api.Hole{good, good, k("j", xs(api.MaxVars+1))}, api.ErrTwice},
		{"twice before a wrong parameter", []api.Hole{good, good, k("j", x("x", "int"))}, api.ErrTwice},
		{"no parameters before a wrong name", []api.Hole{arity, name}, api.ErrArity},
		{"no parameters before twice", []api.Hole{arity, good}, api.ErrArity},
		{"no parameters before too many parameters", []api.Hole{arity, k("j", xs(api.MaxVars+1))}, api.ErrArity},
		{"too many parameters before a wrong name", []api.Hole{long, name}, api.ErrLong},
		{"too many parameters before twice", []api.Hole{long, good}, api.ErrLong},
		{"too many parameters before no parameters", []api.Hole{long, k("j", nil)}, api.ErrLong},
		{"too many parameters before a wrong parameter", []api.Hole{long, k("j", x("x", "int"))}, api.ErrLong},
		{"a wrong parameter before a wrong name", []api.Hole{wrong, name}, api.ErrSort},
		{"a wrong parameter before twice", []api.Hole{wrong, good}, api.ErrSort},
		{"a wrong parameter before no parameters", []api.Hole{wrong, k("j", nil)}, api.ErrSort},
		{"a wrong parameter before too many parameters", []api.Hole{wrong, k("j", xs(api.MaxVars+1))}, api.ErrSort},
	}
	for _, s := range goodNames {
		all = append(all, list[api.Hole]{"the name " + s, []api.Hole{good, k(s, xs(1))}, api.OK})
	}
	for _, s := range badNames {
		all = append(all, list[api.Hole]{"the name " + s, []api.Hole{good, k(s, xs(1))}, api.ErrName})
	}
	for _, c := range varLists() {
		want := c.want
		if len(c.l) == 0 {
			want = api.ErrArity
		}
		all = append(all, list[api.Hole]{"parameters: " + c.what, []api.Hole{good, k("k.0", c.l)}, want})
	}
	return all
}

func checkEnv(t *testing.T, what string, v api.Env, want api.Errno) {
	t.Helper()
	if got := Env(v); got != want {
		t.Errorf("%q: %d, but it is %d", what, got, want)
	}
}

func TestEnvReturnsTheFirstErrorOfEachPart(t *testing.T) {
	checkEnv(t, "the zero environment", api.Env{}, api.OK)
	for _, c := range varLists() {
		checkEnv(t, "variables: "+c.what, api.Env{Vars: c.l}, c.want)
		checkEnv(t, "variables, others right: "+c.what, api.Env{Vars: c.l, Syms: fs(2), Holes: ks(2)}, c.want)
	}
	for _, c := range symLists() {
		checkEnv(t, "symbols: "+c.what, api.Env{Syms: c.l}, c.want)
		checkEnv(t, "symbols, others right: "+c.what, api.Env{Vars: xs(2), Syms: c.l, Holes: ks(2)}, c.want)
	}
	for _, c := range holeLists() {
		checkEnv(t, "holes: "+c.what, api.Env{Holes: c.l}, c.want)
		checkEnv(t, "holes, others right: "+c.what, api.Env{Vars: xs(2), Syms: fs(2), Holes: c.l}, c.want)
	}
}

func TestEnvLooksAtVariablesThenSymbolsThenHoles(t *testing.T) {
	first := func(l ...api.Errno) api.Errno {
		for _, e := range l {
			if e != api.OK {
				return e
			}
		}
		return api.OK
	}
	for _, a := range varLists() {
		for _, b := range symLists() {
			what := "variables: " + a.what + "; symbols: " + b.what
			checkEnv(t, what, api.Env{Vars: a.l, Syms: b.l}, first(a.want, b.want))
		}
		for _, c := range holeLists() {
			what := "variables: " + a.what + "; holes: " + c.what
			checkEnv(t, what, api.Env{Vars: a.l, Holes: c.l}, first(a.want, c.want))
		}
	}
	for _, b := range symLists() {
		for _, c := range holeLists() {
			what := "symbols: " + b.what + "; holes: " + c.what
			checkEnv(t, what, api.Env{Syms: b.l, Holes: c.l}, first(b.want, c.want))
			checkEnv(t, "with a wrong variable, "+what, api.Env{Vars: []api.Var{{Name: "x", Sort: "x"}}, Syms: b.l, Holes: c.l}, api.ErrSort)
		}
	}
	checkEnv(t, "as much as there can be", api.Env{Vars: xs(api.MaxVars), Syms: fs(api.MaxDecls), Holes: ks(api.MaxHoles)}, api.OK)
}

func TestNamesOfDifferentPartsCanBeTheSame(t *testing.T) {
	for _, s := range goodNames {
		v := api.Env{
			Vars:  []api.Var{{Name: s, Sort: "Int"}},
			Syms:  []api.Sym{{Name: s, Args: []api.Sort{"Int"}, Result: "Bool"}},
			Holes: []api.Hole{{Name: s, Params: []api.Var{{Name: s, Sort: "List"}, {Name: "v", Sort: "Int"}}}},
		}
		checkEnv(t, s, v, api.OK)
		x, isVar := Var(v, s)
		f, isSym := Find(v, s)
		k, isHole := Hole(v, s)
		if x != "Int" || !isVar || f.Result != "Bool" || !isSym || len(k.Params) != 2 || !isHole {
			t.Errorf("%s: %q, %v, %v", s, x, f, k)
		}
	}
}

// P6.4

// crowded is an environment in which names occur several times, and which Env rejects in all parts.
func crowded() api.Env {
	return api.Env{
		Vars: []api.Var{{Name: "x", Sort: "Int"}, {Name: "y", Sort: "List"}, {Name: "x", Sort: "Bool"}, {Name: "v", Sort: "Cell"}, {Name: "", Sort: "none"}, {Name: "only", Sort: ""}, {Name: "tag", Sort: "Int"}, {Name: "y", Sort: "Int"}, {Name: "y", Sort: "Tree"}},
		Syms: []api.Sym{{Name: "len", Args: []api.Sort{"List"}, Result: "Int"}, {Name: "tag", Args: []api.Sort{"Tree", "Tree"}, Result: "Bool"}, {Name: "len", Args: []api.Sort{"Tree"}, Result: "Bool"}, {Name: "val", Result: "List"}, {Name: "none"}, {Name: "", Args: []api.Sort{"bad"}, Result: "bad"}, {Name: "v", Args: []api.Sort{"Int"}, Result: "Int"}, {Name: "len"}},
		Holes: []api.Hole{{Name: "k.0", Params: []api.Var{{Name: "v", Sort: "Int"}}}, {Name: "tag"}, {Name: "k.1"}, {Name: "k.0"}, {Name: "k.1", Params: xs(2)},
			{Name: "", Params: []api.Var{{Name: "and", Sort: "bad"}}}},
	}
}

func TestVarReturnsTheLastOne(t *testing.T) {
	for _, c := range []struct {
		name string
		s    api.Sort
		ok   bool
	}{
		{"x", "Bool", true}, {"y", "Tree", true}, {"v", "Cell", true}, {"", "none", true}, {"only", "", true}, {"tag", "Int", true},
		{"z", "", false}, {"X", "", false}, {"x ", "", false}, {"len", "", false}, {"k.0", "", false}, {"val", "", false}, {"\xff", "", false},
	} {
		if s, ok := Var(crowded(), c.name); s != c.s || ok != c.ok {
			t.Errorf("%q: %q, %t", c.name, s, ok)
		}
	}
	for _, s := range []string{"", "v", "x", "tag"} {
		if got, ok := Var(api.Env{}, s); got != "" || ok {
			t.Errorf("%q is in the empty environment: %q", s, got)
		}
	}
}

// same reports whether both values have the same parts, where nil and empty slices mean the same.
func same(a, b any) bool {
	return fmt.Sprintf("%q", a) == fmt.Sprintf("%q", b)
}

func TestFindReturnsTheFirstOne(t *testing.T) {
	list := api.Sym{Name: "len", Args: []api.Sort{"List"}, Result: "Int"}
	tag := api.Sym{Name: "tag", Result: "Int"}
	val := api.Sym{Name: "val", Args: []api.Sort{"Cell"}, Result: "Int"}
	all := crowded()
	for _, c := range []struct {
		v    api.Env
		name string
		s    api.Sym
		ok   bool
	}{
		{all, "len", list, true}, {all, "tag", tag, true}, {all, "val", val, true}, {all, "none", api.Sym{Name: "none"}, true},
		{all, "", all.Syms[5], true}, {all, "v", all.Syms[6], true},
		{all, "x", api.Sym{}, false}, {all, "k.0", api.Sym{}, false}, {all, "Len", api.Sym{}, false}, {all, "le", api.Sym{}, false}, {all, "len.0", api.Sym{}, false},
		{api.Env{}, "tag", tag, true}, {api.Env{}, "val", val, true}, {api.Env{}, "len", api.Sym{}, false}, {api.Env{}, "", api.Sym{}, false}, {api.Env{}, "Tag", api.Sym{}, false},
		{api.Env{Syms: fs(3)}, "tag", tag, true}, {api.Env{Syms: fs(3)}, "val", val, true}, {api.Env{Syms: fs(3)}, "f2", fs(3)[2], true}, {api.Env{Syms: fs(3)}, "f3", api.Sym{}, false},
		{api.Env{Vars: all.Vars, Holes: all.Holes}, "tag", tag, true}, {api.Env{Vars: all.Vars, Holes: all.Holes}, "x", api.Sym{}, false},
	} {
		if s, ok := Find(c.v, c.name); !same(s, c.s) || ok != c.ok {
			t.Errorf("%q: %q, %t", c.name, s, ok)
		}
	}
}

func TestHoleReturnsTheFirstOne(t *testing.T) {
	all := crowded()
	for _, c := range []struct {
		name string
		h    api.Hole
		ok   bool
	}{
		{"k.0", api.Hole{Name: "k.0", Params: []api.Var{{Name: "v", Sort: "Int"}}}, true}, {"k.1", api.Hole{Name: "k.1"}, true},
		{"tag", api.Hole{Name: "tag"}, true}, {"", all.Holes[5], true},
		{"k", api.Hole{}, false}, {"k.2", api.Hole{}, false}, {"x", api.Hole{}, false}, {"len", api.Hole{}, false}, {"val", api.Hole{}, false}, {"v", api.Hole{}, false},
	} {
		if h, ok := Hole(all, c.name); !same(h, c.h) || ok != c.ok {
			t.Errorf("%q: %q, %t", c.name, h, ok)
		}
		if h, ok := Hole(api.Env{Vars: all.Vars, Syms: all.Syms}, c.name); !same(h, api.Hole{}) || ok {
			t.Errorf("%q without holes: %q, %t", c.name, h, ok)
		}
	}
}

// P6.5

func TestOfEachOp(t *testing.T) {
	ops := []api.TOp{math.MinInt, -1, math.MaxInt}
	for op := range api.TOp(64) {
		ops = append(ops, op)
	}
	for _, op := range ops {
		for _, name := range []string{"", "List", "List.Int", "Int", "Bool", "Cell", "a", "v", "no sort", "\xff"} {
			for _, args := range [][]api.Type{nil, {}, {{Op: api.TyInt}}, {{}}, {{Op: api.TyInt}, {Op: api.TyData, Name: "List"}}} {
				var want api.Sort
				switch {
				case op == api.TyInt:
					want = "Int"
				case op == api.TyBool:
					want = "Bool"
				case op == api.TyCell:
					want = "Cell"
				case op == api.TyData && len(args) == 0:
					want = api.Sort(name)
				}
				wantOK := op == api.TyInt || op == api.TyBool || op == api.TyCell || op == api.TyData && len(args) == 0
				p := api.Pred{Op: api.PBool, N: 1}
				for _, u := range []api.Type{
					{Op: op, Name: name, Args: args},
					{Op: op, Name: name, Args: args, Names: []string{"x", "y"}, Pred: p, Preds: []api.Pred{p, {Op: -1}}},
				} {
					if s, ok := Of(u); s != want || ok != wantOK {
						t.Errorf("%v: %q, %t", u, s, ok)
					}
				}
			}
		}
	}
}

// P6.6

// expectedWith takes variables out by the chapter's words.
func expectedWith(v api.Env, x api.Var) api.Env {
	v.Vars = slices.DeleteFunc(slices.Clone(v.Vars), func(y api.Var) bool { return y.Name == x.Name })
	v.Vars = append(v.Vars, x)
	return v
}

func TestWithPutsTheVariableBehindTheOthers(t *testing.T) {
	x := func(name string, s api.Sort) api.Var { return api.Var{Name: name, Sort: s} }
	a, b, c := x("a", "Int"), x("b", "Bool"), x("c", "List")
	for _, d := range []struct {
		what string
		l    []api.Var
		x    api.Var
		want []api.Var
	}{
		{"no variables", nil, a, []api.Var{a}},
		{"an empty list", []api.Var{}, a, []api.Var{a}},
		{"another one", []api.Var{b}, a, []api.Var{b, a}},
		{"none of this name", []api.Var{c, b}, a, []api.Var{c, b, a}},
		{"itself", []api.Var{a}, a, []api.Var{a}},
		{"one of another sort", []api.Var{a}, x("a", "Cell"), []api.Var{x("a", "Cell")}},
		{"at the start", []api.Var{a, b, c}, x("a", "Cell"), []api.Var{b, c, x("a", "Cell")}},
		{"in the middle", []api.Var{b, a, c}, x("a", "Cell"), []api.Var{b, c, x("a", "Cell")}},
		{"at the end", []api.Var{b, c, a}, x("a", "Cell"), []api.Var{b, c, x("a", "Cell")}},
		{"twice", []api.Var{a, b, x("a", "Bool"), c}, x("a", "Cell"), []api.Var{b, c, x("a", "Cell")}},
		{"only this name", []api.Var{a, a, a}, a, []api.Var{a}},
		{"another one twice", []api.Var{b, a, b, x("b", "Int")}, a, []api.Var{b, b, x("b", "Int"), a}},
		{"wrong ones", []api.Var{x("", "bad"), x("and", ""), x("", "")}, x("", "v"), []api.Var{x("and", ""), x("", "v")}},
		{"a wrong one", []api.Var{a, b}, x("Int", "x"), []api.Var{a, b, x("Int", "x")}},
		{"v", []api.Var{x("v", "Int"), a}, x("v", "List"), []api.Var{a, x("v", "List")}},
		{"names that are alike", []api.Var{x("a.0", "Int"), x("A", "Int"), x("a ", "Int"), x("aa", "Int")}, a, []api.Var{x("a.0", "Int"), x("A", "Int"), x("a ", "Int"), x("aa", "Int"), a}},
	} {
		for _, others := range []api.Env{{}, {Syms: fs(3), Holes: ks(3)}, crowded()} {
			got := With(api.Env{Vars: d.l, Syms: others.Syms, Holes: others.Holes}, d.x)
			if !slices.Equal(got.Vars, d.want) {
				t.Errorf("%s: %v", d.what, got.Vars)
			}
			if !same(got.Syms, others.Syms) || !same(got.Holes, others.Holes) {
				t.Errorf("%s: symbols or holes are others: %v", d.what, got)
			}
		}
	}
}

func TestWithKeepsSymbolsAndHolesOfTheName(t *testing.T) {
	v := api.Env{Vars: xs(2), Syms: append(fs(2), fs(2)...), Holes: append(ks(2), ks(2)...)}
	v.Holes[1].Params = append(v.Holes[1].Params, api.Var{Name: "f0", Sort: "Int"}, api.Var{Name: "f0", Sort: "Int"})
	for _, s := range []string{"f0", "f1", "k.0", "k.1", "tag", "val", ""} {
		x := api.Var{Name: s, Sort: "List"}
		got := With(v, x)
		if !slices.Equal(got.Vars, append(xs(2), x)) || !same(got.Syms, v.Syms) || !same(got.Holes, v.Holes) {
			t.Errorf("%q: %v", s, got)
		}
	}
}

func TestWithOfMoreVariablesThanThereCanBe(t *testing.T) {
	many := xs(3000)
	got := With(api.Env{Vars: many}, api.Var{Name: "x1500", Sort: "Cell"})
	want := append(slices.Delete(xs(3000), 1500, 1501), api.Var{Name: "x1500", Sort: "Cell"})
	if !slices.Equal(got.Vars, want) {
		t.Errorf("%d variables", len(got.Vars))
	}
	if got := With(api.Env{Vars: xs(api.MaxVars)}, api.Var{Name: "y", Sort: "Int"}); len(got.Vars) != api.MaxVars+1 {
		t.Errorf("%d variables", len(got.Vars))
	}
}

// Drawn environments

// pick draws an element of l.
func pick[T any](r *rand.Rand, l ...T) T {
	return l[r.Intn(len(l))]
}

// rarely draws an element of l, and now and then one of the other list.
func rarely[T any](r *rand.Rand, l, other []T) T {
	if r.Intn(40) == 0 {
		return pick(r, other...)
	}
	return pick(r, l...)
}

func someName(r *rand.Rand) string {
	name := rarely(r, []string{"x", "y", "z", "len", "T", "T.Int", "f.0", "v.1", "k"}, []string{"", "v", "tag", "val", "and", "xY", "Int", "a..b"})
	if r.Intn(3) > 0 {
		name += fmt.Sprint(".", r.Intn(40))
	}
	return name
}

func someVar(r *rand.Rand) api.Var {
	x := api.Var{Name: someName(r), Sort: rarely(r, goodSorts, badSorts)}
	if r.Intn(5) == 0 {
		x.Name = "v"
	}
	return x
}

// some draws a list of few elements, which are seldom more than there can be.
func some[T any](r *rand.Rand, most int, f func(*rand.Rand) T) []T {
	n := r.Intn(4)
	if r.Intn(40) == 0 {
		n = most + r.Intn(3) - 1
	}
	var l []T
	for range n {
		l = append(l, f(r))
	}
	return l
}

func someSym(r *rand.Rand) api.Sym {
	s := api.Sym{Name: someName(r), Result: rarely(r, goodSorts, badSorts)}
	for range rarely(r, []int{1, 2, api.MaxArgs}, []int{0, api.MaxArgs + 1}) {
		s.Args = append(s.Args, rarely(r, goodSorts, badSorts))
	}
	return s
}

func someHole(r *rand.Rand) api.Hole {
	h := api.Hole{Name: someName(r), Params: some(r, api.MaxVars, someVar)}
	if len(h.Params) == 0 && r.Intn(10) > 0 {
		h.Params = xs(1)
	}
	return h
}

func someEnv(r *rand.Rand) api.Env {
	return api.Env{Vars: some(r, api.MaxVars, someVar), Syms: some(r, api.MaxDecls, someSym), Holes: some(r, api.MaxHoles, someHole)}
}

// errors collects errors in the chapter's order.
type errors []api.Errno

func (l *errors) add(e api.Errno, is bool) {
	if is {
		*l = append(*l, e)
	}
}

// vars adds all errors of variables.
func (l *errors) vars(xs []api.Var) {
	l.add(api.ErrLong, len(xs) > 24)
	for i, x := range xs {
		l.add(api.ErrName, x.Name != "v" && !isCore(x.Name))
		l.add(api.ErrTwice, slices.ContainsFunc(xs[:i], func(y api.Var) bool { return y.Name == x.Name }))
		l.add(api.ErrSort, !isSort(x.Sort))
	}
}

// expectedEnv returns the first of all errors of an environment.
func expectedEnv(v api.Env) api.Errno {
	var l errors
	l.vars(v.Vars)
	l.add(api.ErrLong, len(v.Syms) > 64)
	for i, s := range v.Syms {
		l.add(api.ErrName, !isCore(s.Name))
		l.add(api.ErrArity, len(s.Args) == 0 || len(s.Args) > 6)
		l.add(api.ErrSort, !isSort(s.Result) || slices.ContainsFunc(s.Args, func(s api.Sort) bool { return !isSort(s) }))
		l.add(api.ErrTwice, slices.ContainsFunc(v.Syms[:i], func(r api.Sym) bool { return r.Name == s.Name }))
	}
	l.add(api.ErrLong, len(v.Holes) > 40)
	for i, h := range v.Holes {
		l.add(api.ErrName, !isCore(h.Name))
		l.add(api.ErrTwice, slices.ContainsFunc(v.Holes[:i], func(k api.Hole) bool { return k.Name == h.Name }))
		l.add(api.ErrArity, len(h.Params) == 0)
		l.vars(h.Params)
	}
	return append(l, api.OK)[0]
}

// namesOf returns all names in an environment, and some others.
func namesOf(v api.Env) []string {
	l := []string{"", "v", "tag", "val", "x", "nowhere", "and"}
	for _, x := range v.Vars {
		l = append(l, x.Name)
	}
	for _, s := range v.Syms {
		l = append(l, s.Name)
	}
	for _, h := range v.Holes {
		l = append(l, h.Name)
	}
	return l
}

func TestEnvOfDrawnEnvironments(t *testing.T) {
	r := rand.New(rand.NewSource(63))
	met := map[api.Errno]int{}
	for range 20000 {
		v := someEnv(r)
		want := expectedEnv(v)
		met[want]++
		if got := Env(v); got != want {
			t.Fatalf("%q: %d, but it is %d", v, got, want)
		}
	}
	for _, e := range []api.Errno{api.OK, api.ErrName, api.ErrTwice, api.ErrSort, api.ErrArity, api.ErrLong} {
		if met[e] < 100 {
			t.Errorf("error %d occurred only %d times", e, met[e])
		}
	}
}

// expectedLookups returns what is found under a name, tag and val apart: the last variable, the first symbol, the first hole.
func expectedLookups(v api.Env, name string) (xs []api.Var, fs []api.Sym, ks []api.Hole) {
	for _, x := range v.Vars {
		if x.Name == name {
			xs = []api.Var{x}
		}
	}
	for _, f := range v.Syms {
		if f.Name == name && fs == nil {
			fs = []api.Sym{f}
		}
	}
	for _, k := range v.Holes {
		if k.Name == name && ks == nil {
			ks = []api.Hole{k}
		}
	}
	return xs, fs, ks
}

// checkFound compares a result, and whether there is one, with a list that is empty if there should be none.
func checkFound[T any](t *testing.T, what string, got T, ok bool, want []T) {
	t.Helper()
	var zero T
	if ok != (len(want) > 0) || !same(got, append(want, zero)[0]) {
		t.Errorf("%q: %v, %t, but it is %v", what, got, ok, want)
	}
}

func TestLookupsInDrawnEnvironments(t *testing.T) {
	r := rand.New(rand.NewSource(64))
	for range 3000 {
		v := someEnv(r)
		for _, s := range namesOf(v) {
			xs, fs, ks := expectedLookups(v, s)
			x := api.Var{Name: s}
			var ok bool
			if x.Sort, ok = Var(v, s); !ok && x.Sort == "" {
				x = api.Var{}
			}
			checkFound(t, "Var of "+s, x, ok, xs)
			if s != "tag" && s != "val" {
				f, ok := Find(v, s)
				checkFound(t, "Find of "+s, f, ok, fs)
			}
			k, ok := Hole(v, s)
			checkFound(t, "Hole of "+s, k, ok, ks)
		}
	}
}

// drawnVar draws a variable, often one with a name in v.
func drawnVar(r *rand.Rand, v api.Env) api.Var {
	x := someVar(r)
	if r.Intn(2) == 0 {
		x.Name = pick(r, namesOf(v)...)
	}
	return x
}

func TestWithOfDrawnEnvironments(t *testing.T) {
	r := rand.New(rand.NewSource(66))
	for range 10000 {
		v := someEnv(r)
		x := drawnVar(r, v)
		if got := With(v, x); !same(got, expectedWith(v, x)) {
			t.Fatalf("%q, %q: %q", v, x, got)
		}
	}
}

// P6.7

func TestLookupsAfterWith(t *testing.T) {
	r := rand.New(rand.NewSource(67))
	for range 5000 {
		v := someEnv(r)
		x := drawnVar(r, v)
		u := With(v, x)
		if s, ok := Var(u, x.Name); s != x.Sort || !ok {
			t.Fatalf("%q, %q: %q, %t", v, x, s, ok)
		}
		for _, name := range append(namesOf(v), someName(r)) {
			was, before := Var(v, name)
			if is, ok := Var(u, name); name != x.Name && (is != was || ok != before) {
				t.Fatalf("%q, %q: %q was %q, %t", v, x, name, was, before)
			}
			f, isSym := Find(u, name)
			g, wasSym := Find(v, name)
			h, isHole := Hole(u, name)
			k, wasHole := Hole(v, name)
			if isSym != wasSym || isHole != wasHole || !same(f, g) || !same(h, k) {
				t.Fatalf("%q, %q: %q changed", v, x, name)
			}
		}
	}
}

func TestWhatIsFoundIsAccepted(t *testing.T) {
	r := rand.New(rand.NewSource(68))
	vars, syms, holes := 0, 0, 0
	for range 10000 {
		v := someEnv(r)
		if Env(v) != api.OK {
			continue
		}
		for _, name := range namesOf(v) {
			if s, ok := Var(v, name); ok {
				vars++
				if Check(s) != api.OK {
					t.Fatalf("%q: %q has the sort %q", v, name, s)
				}
			}
			if f, ok := Find(v, name); ok && name != "tag" && name != "val" {
				syms++
				if Sym(f) != api.OK || Env(api.Env{Syms: []api.Sym{f}}) != api.OK {
					t.Fatalf("%q: found %q", v, f)
				}
			}
			if h, ok := Hole(v, name); ok {
				holes++
				if Env(api.Env{Holes: []api.Hole{h}}) != api.OK {
					t.Fatalf("%q: found %q", v, h)
				}
			}
		}
	}
	if vars < 1000 || syms < 1000 || holes < 1000 {
		t.Errorf("only %d variables, %d symbols and %d holes were found", vars, syms, holes)
	}
}

// P6.8

func TestAcceptedEnvironmentsGrow(t *testing.T) {
	r := rand.New(rand.NewSource(69))
	grown, full := 0, 0
	for range 2000 {
		v := someEnv(r)
		if Env(v) != api.OK {
			continue
		}
		for len(v.Vars) <= api.MaxVars {
			x := drawnVar(r, v)
			right := (x.Name == "v" || isCore(x.Name)) && isSort(x.Sort)
			u := With(v, x)
			want := len(u.Vars) <= api.MaxVars && right
			if e := Env(u); (e == api.OK) != want || right && !want && e != api.ErrLong {
				t.Fatalf("%q, %q: %d", v, x, e)
			}
			if len(u.Vars) > api.MaxVars {
				full++
				break
			}
			if right {
				grown++
				v = u
			}
		}
	}
	if grown < 1000 || full < 100 {
		t.Errorf("only %d environments grew, and %d were full", grown, full)
	}
	v := api.Env{Vars: xs(api.MaxVars), Syms: fs(api.MaxDecls), Holes: ks(api.MaxHoles)}
	checkEnv(t, "a full environment with a variable again", With(v, api.Var{Name: "x7", Sort: "List"}), api.OK)
	checkEnv(t, "a full environment with another variable", With(v, api.Var{Name: "y", Sort: "List"}), api.ErrLong)
}

// Rules 1 and 3

// roomy returns an environment whose slices have room behind their ends, and the slices with this room.
func roomy() (api.Env, api.Env) {
	whole := crowded()
	for i, s := range whole.Syms {
		whole.Syms[i].Args = append(s.Args, "behind", "the", "end")
	}
	for i, h := range whole.Holes {
		whole.Holes[i].Params = append(h.Params, api.Var{Name: "behind", Sort: "end"}, api.Var{Name: "the", Sort: "end"})
	}
	v := api.Env{Vars: whole.Vars[:6], Syms: slices.Clone(whole.Syms)[:5], Holes: slices.Clone(whole.Holes)[:4]}
	for i, s := range v.Syms {
		v.Syms[i].Args = s.Args[:len(s.Args)-3]
	}
	for i, h := range v.Holes {
		v.Holes[i].Params = h.Params[:len(h.Params)-2]
	}
	return v, whole
}

func TestNoFunctionChangesAnArgument(t *testing.T) {
	v, whole := roomy()
	wasV, was := fmt.Sprintf("%q", v), fmt.Sprintf("%q", whole)
	u := api.Type{Op: api.TyData, Name: "List", Args: []api.Type{{Op: api.TyInt}}, Names: []string{"x"}, Preds: []api.Pred{{Op: api.PVar, Name: "v"}}}
	wasU := fmt.Sprintf("%+v", u)
	Env(v)
	Env(whole)
	for _, s := range v.Syms {
		Sym(s)
	}
	for _, s := range namesOf(v) {
		Var(v, s)
		Find(v, s)
		Hole(v, s)
		With(v, api.Var{Name: s, Sort: "Int"})
	}
	Of(u)
	if fmt.Sprintf("%q", v) != wasV || fmt.Sprintf("%q", whole) != was || fmt.Sprintf("%+v", u) != wasU {
		t.Errorf("an argument was changed: %q", v)
	}
}

// spoil changes everything that a slice holds, and what there is room for behind it.
func spoil[T any](l []T, x T) {
	l = l[:cap(l)]
	for i := range l {
		l[i] = x
	}
}

// spoilSym changes the arguments of a symbol.
func spoilSym(s api.Sym) {
	spoil(s.Args, "Spoilt")
}

// spoilHole changes the parameters of a hole.
func spoilHole(h api.Hole) {
	spoil(h.Params, api.Var{Name: "spoilt", Sort: "Spoilt"})
}

// spoilEnv changes all parts of an environment.
func spoilEnv(v api.Env) {
	for _, s := range v.Syms {
		spoilSym(s)
	}
	for _, h := range v.Holes {
		spoilHole(h)
	}
	spoil(v.Vars, api.Var{Name: "spoilt", Sort: "Spoilt"})
	spoil(v.Syms, api.Sym{Name: "spoilt"})
	spoil(v.Holes, api.Hole{Name: "spoilt"})
}

func TestResultsShareNothingWithArguments(t *testing.T) {
	v, whole := roomy()
	was, x := fmt.Sprintf("%q", whole), api.Var{Name: "y", Sort: "Int"}
	other := With(v, x)
	wasOther := fmt.Sprintf("%q", other)
	for _, s := range namesOf(v) {
		f, _ := Find(v, s)
		spoilSym(f)
		h, _ := Hole(v, s)
		spoilHole(h)
		spoilEnv(With(v, api.Var{Name: s, Sort: "Int"}))
	}
	if fmt.Sprintf("%q", whole) != was {
		t.Errorf("an argument was changed by way of a result: %q", whole)
	}
	if fmt.Sprintf("%q", other) != wasOther || fmt.Sprintf("%q", With(v, x)) != wasOther {
		t.Errorf("a result was changed by way of another one: %q", other)
	}
	if f, ok := Find(v, "val"); !ok || !reflect.DeepEqual(f.Args, []api.Sort{"Cell"}) {
		t.Errorf("val is %q", f)
	}
	spoilEnv(v)
	if fmt.Sprintf("%q", other) != wasOther {
		t.Errorf("a result was changed by way of an argument: %q", other)
	}
}

func TestPartsOfOneResultShareNothing(t *testing.T) {
	args, params := []api.Sort{"Int", "Bool"}, xs(2)
	v := api.Env{
		Vars:  params,
		Syms:  []api.Sym{{Name: "f", Args: args, Result: "Int"}, {Name: "g", Args: args, Result: "Int"}, {Name: "h", Args: args[:1], Result: "Int"}},
		Holes: []api.Hole{{Name: "k.0", Params: params}, {Name: "k.1", Params: params}, {Name: "k.2", Params: params[:1]}},
	}
	spoilAndCompare := func(part int) {
		u := With(v, api.Var{Name: "y", Sort: "Int"})
		want := With(v, api.Var{Name: "y", Sort: "Int"})
		switch part {
		case 0, 1, 2:
			spoilSym(u.Syms[part])
			u.Syms[part] = want.Syms[part]
		case 3, 4, 5:
			spoilHole(u.Holes[part-3])
			u.Holes[part-3] = want.Holes[part-3]
		default:
			spoil(u.Vars, api.Var{})
			u.Vars = want.Vars
		}
		if !same(u, want) {
			t.Errorf("part %d is shared: %q", part, u)
		}
	}
	for part := range 7 {
		spoilAndCompare(part)
	}
}

func TestResultsAreTheSameEachTime(t *testing.T) {
	r := rand.New(rand.NewSource(70))
	for range 500 {
		v := someEnv(r)
		x := drawnVar(r, v)
		first, e := With(v, x), Env(v)
		for range 5 {
			if !reflect.DeepEqual(With(v, x), first) || Env(v) != e {
				t.Fatalf("%q, %q: another result", v, x)
			}
		}
	}
}
