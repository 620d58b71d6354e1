package names

import (
	"fmt"
	"math/rand"
	"regexp"
	"slices"
	"strconv"
	"strings"
	"testing"

	"liquidcheck/api"
)

// allKeywords are the keywords as the chapter lists them.
const allKeywords = "and assume bool bound case cell class data def div else end false forall fun get if in inst int invariant let match measure metric mod mu new not of or qual reflect set then true use v val tag where with"

// The forms of the chapter's section Definitions, but for keywords, the basic types and the length of core names.
var (
	nameForm  = regexp.MustCompile(`\A[a-z][a-z0-9_]{0,23}\z`)
	titleForm = regexp.MustCompile(`\A[A-Z][A-Za-z0-9]{0,23}\z`)
	partsForm = regexp.MustCompile(`\A(\.([a-zA-Z0-9]{1,24}|[a-z][a-z0-9_]{0,23}))*\z`)
)

// kinds says what a text is.
type kinds struct{ keyword, name, title, core bool }

// kindsOf tells what the functions of the package say about a text, and complains about other error codes than the chapter's.
func kindsOf(t *testing.T, s string) kinds {
	t.Helper()
	is := func(e api.Errno) bool {
		if e != api.OK && e != api.ErrName {
			t.Errorf("%q: error %d", s, e)
		}
		return e == api.OK
	}
	return kinds{Keyword(s), is(Check(s)), is(Title(s)), is(Core(s))}
}

// expectedKinds says what a text is by the chapter's definitions.
func expectedKinds(s string) kinds {
	word := func(s string) bool { return slices.Contains(strings.Fields(allKeywords), s) }
	name := func(s string) bool { return nameForm.MatchString(s) && !word(s) }
	title := func(s string) bool {
		return titleForm.MatchString(s) && s != "Int" && s != "Bool" && s != "Cell" && s != "Fun"
	}
	start, parts := s, ""
	if i := strings.IndexByte(s, '.'); i >= 0 {
		start, parts = s[:i], s[i:]
	}
	core := len(s) <= 120 && partsForm.MatchString(parts) && (name(start) || title(start) || start == "v" && parts != "")
	return kinds{word(s), name(s), title(s), core}
}

// checkKinds compares the functions of the package with the chapter's definitions.
func checkKinds(t *testing.T, s string) {
	t.Helper()
	if got, want := kindsOf(t, s), expectedKinds(s); got != want {
		t.Errorf("%q: %v, but it is %v", s, got, want)
	}
}

// texts calls f with all texts of up to n symbols.
func texts(symbols []string, n int, f func(string)) {
	var add func(s string, n int)
	add = func(s string, n int) {
		f(s)
		if n == 0 {
			return
		}
		for _, c := range symbols {
			add(s+c, n-1)
		}
	}
	add("", n)
}

// P4.1

func TestKeywordsAreThoseOfTheChapter(t *testing.T) {
	list := strings.Fields(allKeywords)
	if len(list) != 42 {
		t.Fatal(len(list))
	}
	for _, s := range list {
		if got := kindsOf(t, s); got != (kinds{keyword: true}) {
			t.Errorf("%q: %v", s, got)
		}
		for _, near := range []string{s + "s", s + "_", s + "0", s + " ", "a" + s, strings.ToUpper(s), strings.ToUpper(s[:1]) + s[1:], s[1:], s[:len(s)-1]} {
			checkKinds(t, near)
		}
	}
	for _, s := range []string{"", "print", "do", "for", "while", "import", "type", "return", "var", "x", "Int", "list", "assert", "instance", "invariants", "V"} {
		if Keyword(s) {
			t.Errorf("%q is no keyword", s)
		}
	}
}

func TestKindsOfOrdinaryTexts(t *testing.T) {
	name := kinds{name: true, core: true}
	title := kinds{title: true, core: true}
	core := kinds{core: true}
	for _, c := range []struct {
		want  kinds
		texts string
	}{
		{name, "x x1 and_then list_2 a__ a_ f0_9z vv v_ v1 va vals int_ ofx z"},
		{title, "List T2 Nil A ABC Ints Boolean Cells Funny INT INt T2x V VAL Int2 Z9"},
		{core, "List.Int f.0 f.p_1 v.3 v.v v.and x.Int x.v a.b.C.0 List.0x x.0Xy x.xY T.a_b v.a.b.c f.0.p_1 x.X x.a__ v.Int"},
		{kinds{}, "X_ 1x _x xY L_1 Int Bool Cell Fun v. a. a..b .a a.P_1 a._ Int.x Bool.x Cell.0 Fun.f and.x int.0 of. . .. .v v..x v.x. 1.x _.x x.1_ x._1 x.Xa_ x.aB_ _ 0 12 L_ x-y"},
	} {
		for _, s := range strings.Fields(c.texts) {
			if got := kindsOf(t, s); got != c.want {
				t.Errorf("%q: %v, but it is %v", s, got, c.want)
			}
		}
	}
	checkKinds(t, "")
}

func TestKindsOfAllShortTexts(t *testing.T) {
	texts([]string{"a", "v", "Z", "0", "_", ".", "-"}, 6, func(s string) { checkKinds(t, s) })
}

func TestKindsOfWordsAndTheirParts(t *testing.T) {
	texts([]string{"v", "of", "Int", "List", "x9", "A_", "7", ".", "_"}, 4, func(s string) { checkKinds(t, s) })
}

func TestEachByteIsAllowedOnlyWhereTheChapterSays(t *testing.T) {
	for b := range 256 {
		c := string([]byte{byte(b)})
		for _, form := range []string{"?", "x?", "x?y", "?x", "T?", "T?t", "?T", "x.?", "x.y?", "x.Y?", "x.0?", "x?.y", "T?.y", "x.?y", "v?", "v.?", "?.x", "x.y?.z"} {
			checkKinds(t, strings.ReplaceAll(form, "?", c))
		}
	}
	for _, s := range []string{"é", "xé", "É", "Té", "x.é", "x٣", "ſ", "ａ", "x\x00", "x\n", "\nx", "x.y\n", "T\n", "x y", "x\tz", "\xff", "x.\x80", "x\u200b"} {
		if got := kindsOf(t, s); got != (kinds{}) {
			t.Errorf("%q: %v", s, got)
		}
	}
}

func TestNamesAndTitlesHaveAtMostMaxNameBytes(t *testing.T) {
	most := strings.Repeat("b", api.MaxName-1)
	for _, c := range []struct {
		s    string
		want kinds
	}{
		{"a" + most, kinds{name: true, core: true}},
		{"a" + most + "b", kinds{}},
		{"a" + most + "_", kinds{}},
		{"A" + most, kinds{title: true, core: true}},
		{"A" + most + "b", kinds{}},
		{"a" + most + ".x", kinds{core: true}},
		{"a" + most + "b.x", kinds{}},
		{"A" + most + ".x", kinds{core: true}},
		{"A" + most + "b.x", kinds{}},
		{strings.Repeat("a", 1000), kinds{}},
		{strings.Repeat("A", 1000), kinds{}},
	} {
		if got := kindsOf(t, c.s); got != c.want {
			t.Errorf("%q: %v, but it is %v", c.s, got, c.want)
		}
	}
}

func TestPartsHaveAtMostMaxNameBytes(t *testing.T) {
	for _, c := range []string{"a", "A", "0", "a_", "aA", "0a", "A0"} {
		most := c + strings.Repeat(c[len(c)-1:], api.MaxName-len(c))
		for _, start := range []string{"x", "T", "v", "x.y", "v.0"} {
			if Core(start+"."+most) != api.OK || Core(start+"."+most+".z") != api.OK {
				t.Errorf("%s.%s is a core name", start, most)
			}
			if longer := most + most[len(most)-1:]; Core(start+"."+longer) != api.ErrName || Core(start+"."+longer+".z") != api.ErrName {
				t.Errorf("%s.%s is no core name", start, longer)
			}
		}
	}
}

func TestCoreNamesHaveAtMost120Bytes(t *testing.T) {
	part := "." + strings.Repeat("c", 19)
	for _, c := range []struct {
		s    string
		want api.Errno
	}{
		{"a" + strings.Repeat(".b", 58) + "cd", api.OK},
		{"a" + strings.Repeat(".b", 59) + "c", api.OK},
		{"a" + strings.Repeat(".b", 60), api.ErrName},
		{strings.Repeat("T", 20) + strings.Repeat(part, 5), api.OK},
		{strings.Repeat("T", 21) + strings.Repeat(part, 5), api.ErrName},
		{"v" + strings.Repeat(part, 5) + "." + strings.Repeat("0", 18), api.OK},
		{"v" + strings.Repeat(part, 5) + "." + strings.Repeat("0", 19), api.ErrName},
		{"v" + strings.Repeat(".b", 500), api.ErrName},
	} {
		if got := Core(c.s); got != c.want {
			t.Errorf("%d bytes %q: %d", len(c.s), c.s, got)
		}
	}
}

// P4.2

func TestFindReturnsTheLeastIndex(t *testing.T) {
	l := []string{"b", "a", "", "b", "c", "a", "B"}
	for s, want := range map[string]int{"b": 0, "a": 1, "": 2, "c": 4, "B": 6, "A": -1, "bb": -1, " ": -1, "b\x00": -1} {
		if got := Find(l, s); got != want {
			t.Errorf("%q: %d", s, got)
		}
	}
	if Find(nil, "a") != -1 || Find([]string{}, "") != -1 || Find(l[:0], "b") != -1 || Find(l[1:3], "b") != -1 {
		t.Error("found in a list without it")
	}
}

func TestDistinctTellsListsWithEqualElements(t *testing.T) {
	long := make([]string, 5000)
	for i := range long {
		long[i] = "x" + strconv.Itoa(i)
	}
	far := slices.Clone(long)
	far[len(far)-1] = far[0]
	for _, c := range []struct {
		l    []string
		want bool
	}{
		{nil, true}, {[]string{}, true}, {[]string{""}, true}, {[]string{"a"}, true},
		{[]string{"", ""}, false}, {[]string{"a", "a"}, false}, {[]string{"a", "A"}, true},
		{[]string{"a", "b", "a"}, false}, {[]string{"b", "a", "a"}, false}, {[]string{"a", "a", "b"}, false},
		{[]string{"ab", "a", "b"}, true}, {[]string{"a", "a\x00", "\xff"}, true}, {[]string{"\xff", "a", "\xff"}, false},
		{long, true}, {far, false},
	} {
		if got := Distinct(c.l); got != c.want {
			t.Errorf("%d texts %.80q: %v", len(c.l), c.l, got)
		}
	}
}

// P4.3 and P4.6

// expectedFresh searches as the chapter says, number by number.
func expectedFresh(used []string, base string) string {
	s := base
	for n := 1; slices.Contains(used, s); n++ {
		s = fmt.Sprintf("%s%d", base, n)
	}
	return s
}

func TestFreshAppendsTheLeastNumber(t *testing.T) {
	numbered := []string{"t"}
	for n := range 1100 {
		numbered = append(numbered, fmt.Sprint("t", n+1))
	}
	for _, c := range []struct {
		used []string
		base string
		want string
	}{
		{nil, "x", "x"}, {nil, "", ""}, {[]string{}, "x1", "x1"},
		{[]string{"x1"}, "x", "x"}, {[]string{"X", "x ", ""}, "x", "x"},
		{[]string{"x"}, "x", "x1"}, {[]string{"x", "x", "x"}, "x", "x1"},
		{[]string{"x", "x1", "x3"}, "x", "x2"}, {[]string{"x3", "x1", "x"}, "x", "x2"}, {[]string{"x", "x2", "x3"}, "x", "x1"},
		{[]string{"x", "x1", "x1", "x2", "x", "x4"}, "x", "x3"}, {[]string{"x", "x0", "x01", "x-1"}, "x", "x1"},
		{[]string{"x1"}, "x1", "x11"}, {[]string{"x1", "x11"}, "x1", "x12"}, {[]string{"", "1"}, "", "2"},
		{[]string{"a.b", "a.b1"}, "a.b", "a.b2"}, {[]string{"?"}, "?", "?1"}, {[]string{"\xff"}, "\xff", "\xff1"},
		{numbered[:10], "t", "t10"}, {numbered[:100], "t", "t100"}, {numbered, "t", "t1101"}, {numbered[1:], "t", "t"},
	} {
		if got := Fresh(c.used, c.base); got != c.want || got != expectedFresh(c.used, c.base) {
			t.Errorf("%.80q, %q: %q", c.used, c.base, got)
		}
	}
}

func TestFreshReturnsWhatIsNotUsed(t *testing.T) {
	r := rand.New(rand.NewSource(4))
	for range 3000 {
		used := someTexts(r)
		base := []string{"", "x", "x1", "y"}[r.Intn(4)]
		got := Fresh(used, base)
		if slices.Contains(used, got) || got != expectedFresh(used, base) {
			t.Errorf("%q, %q: %q", used, base, got)
		}
	}
}

// someTexts returns up to 14 texts, many of which are numbered alike.
func someTexts(r *rand.Rand) []string {
	l := make([]string, r.Intn(15))
	for i := range l {
		l[i] = []string{"", "x", "x1", "y", "X", "\xff"}[r.Intn(6)]
		if n := r.Intn(8); n > 0 {
			l[i] += strconv.Itoa(n)
		}
	}
	return l
}

// P4.4 and P4.6

func TestUnionIsIncreasingAndHasEachTextOnce(t *testing.T) {
	for _, c := range []struct{ a, b, want []string }{
		{nil, nil, nil}, {[]string{}, nil, nil}, {nil, []string{}, nil},
		{[]string{"a"}, nil, []string{"a"}}, {nil, []string{"a"}, []string{"a"}}, {[]string{""}, nil, []string{""}},
		{[]string{"a", "b"}, []string{"c"}, []string{"a", "b", "c"}}, {[]string{"c"}, []string{"b", "a"}, []string{"a", "b", "c"}},
		{[]string{"c", "a", "b"}, []string{"z", "y"}, []string{"a", "b", "c", "y", "z"}},
		{[]string{"b", "a", "b"}, []string{"c", "a", "B"}, []string{"B", "a", "b", "c"}},
		{[]string{"a", "a"}, nil, []string{"a"}}, {nil, []string{"b", "b", "b"}, []string{"b"}},
		{[]string{"a", "b"}, []string{"a", "b"}, []string{"a", "b"}}, {[]string{"b", "a"}, []string{"a", "b"}, []string{"a", "b"}},
		{[]string{"x10", "x9"}, []string{"x1", "x"}, []string{"x", "x1", "x10", "x9"}},
		{[]string{"\xff", "é"}, []string{"a", "Z", "_", "0", "."}, []string{".", "0", "Z", "_", "a", "é", "\xff"}},
	} {
		if got := Union(c.a, c.b); !slices.Equal(got, c.want) {
			t.Errorf("%q, %q: %q", c.a, c.b, got)
		}
	}
}

func TestUnionHasNoOtherTexts(t *testing.T) {
	r := rand.New(rand.NewSource(44))
	for range 2000 {
		a, b := someTexts(r), someTexts(r)
		want := slices.Concat(a, b)
		slices.Sort(want)
		want = slices.Compact(want)
		if got := Union(a, b); !slices.Equal(got, want) {
			t.Errorf("%q, %q: %q", a, b, got)
		}
		r.Shuffle(len(a), func(i, j int) { a[i], a[j] = a[j], a[i] })
		r.Shuffle(len(b), func(i, j int) { b[i], b[j] = b[j], b[i] })
		if !slices.Equal(Union(b, a), want) {
			t.Errorf("%q, %q: the order matters", a, b)
		}
	}
}

// P4.5

func TestKindsExcludeAndIncludeEachOther(t *testing.T) {
	check := func(s string) {
		k := kindsOf(t, s)
		if k.name && k.title || k.keyword && (k.name || k.title || k.core) {
			t.Errorf("%q is of kinds that exclude each other: %v", s, k)
		}
		if (k.name || k.title) && !k.core {
			t.Errorf("%q is no core name", s)
		}
		if !k.core {
			return
		}
		for _, part := range []string{".x", ".X", ".0", ".p_1", ".v", ".and", ".Int", "." + strings.Repeat("0", api.MaxName)} {
			if longer := s + part; (Core(longer) == api.OK) != (len(longer) <= 120) {
				t.Errorf("%q with %d bytes: %d", longer, len(longer), Core(longer))
			}
		}
	}
	for _, s := range strings.Fields(allKeywords) {
		check(s)
	}
	texts([]string{"a", "v", "Z", "0", "_", "."}, 5, check)
	for n := range 121 {
		check("f" + strings.Repeat(".g", n/2) + strings.Repeat("h", n%2))
	}
}

// Rules 1 and 3

func TestNoFunctionChangesAnArgument(t *testing.T) {
	whole := []string{"x", "b", "a", "b", "x1", "rest", "of", "it"}
	l := whole[:5]
	m := slices.Clone(whole)[3:]
	wasWhole, wasM := slices.Clone(whole), slices.Clone(m)
	Find(l, "b")
	Distinct(l)
	Fresh(l, "x")
	Union(l, m)
	Union(m, l)
	Union(l, l)
	if !slices.Equal(whole, wasWhole) || !slices.Equal(m, wasM) {
		t.Error("an argument was changed")
	}
}

func TestResultsShareNothingWithArguments(t *testing.T) {
	a, b := []string{"a", "b", "c"}, []string{"d", "e"}
	for _, args := range [][2][]string{{a, b}, {b, a}, {a, nil}, {nil, a}, {a, a}, {a, a[:1]}} {
		for i, u := 0, Union(args[0], args[1]); i < len(u); i++ {
			u[i] = "changed"
			_ = append(u[:i], "appended")
		}
	}
	if !slices.Equal(a, []string{"a", "b", "c"}) || !slices.Equal(b, []string{"d", "e"}) {
		t.Error("an argument was changed by way of a result")
	}
	first := Union(a, b)
	second := Union(a, b)
	first[0] = "changed"
	if second[0] != "a" || Union(a, b)[0] != "a" {
		t.Error("two results share memory")
	}
}
