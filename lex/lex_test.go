package lex

import (
	"fmt"
	"math"
	"math/big"
	"math/rand"
	"regexp"
	"slices"
	"strings"
	"testing"

	"liquidcheck/api"
)

// allSigns are the signs as the chapter lists them.
const allSigns = "<=>  ->  =>  <=  >=  !=  ==  &&  ||  +  -  *  /  %  (  )  {  }  [  ]  <  >  =  |  ,  :  ;  .  !  ?  '"

// The forms of the chapter's section Definitions.
var (
	gapForm    = regexp.MustCompile(`\A(?:[ \t\n]|#[^\n]*)+`)
	wordForm   = regexp.MustCompile(`\A[a-z][a-zA-Z0-9_]*`)
	titleForm  = regexp.MustCompile(`\A[A-Z][a-zA-Z0-9_]*`)
	numberForm = regexp.MustCompile(`\A[0-9]+`)
)

// beginning returns the kind and the text of the longest token that a text begins with, whatever its value is.
func beginning(s string) (api.TokenKind, string) {
	if w := wordForm.FindString(s); w != "" {
		return api.TkWord, w
	}
	if w := titleForm.FindString(s); w != "" {
		return api.TkTitle, w
	}
	if w := numberForm.FindString(s); w != "" {
		return api.TkNumber, w
	}
	best := ""
	for _, sign := range strings.Fields(allSigns) {
		if strings.HasPrefix(s, sign) && len(sign) > len(best) {
			best = sign
		}
	}
	return api.TkSign, best
}

// valueOf returns the value of digits and whether it is small enough.
func valueOf(digits string) (int, bool) {
	n, ok := new(big.Int).SetString(digits, 10)
	if !ok || n.Cmp(big.NewInt(api.MaxInt)) > 0 {
		return 0, false
	}
	return int(n.Int64()), true
}

// result is what Tokens returns.
type result struct {
	l    []api.Token
	line int
	e    api.Errno
}

// expectedTokens divides a text by the chapter's definitions.
func expectedTokens(s string) result {
	if len(s) > 40000 {
		return result{e: api.ErrLong}
	}
	var l []api.Token
	at := 0
	line := func() int { return 1 + strings.Count(s[:at], "\n") }
	for {
		at += len(gapForm.FindString(s[at:]))
		if at == len(s) {
			return result{l: append(l, api.Token{Kind: api.TkEnd, Line: line()})}
		}
		tk := api.Token{Line: line()}
		tk.Kind, tk.Text = beginning(s[at:])
		ok := tk.Text != ""
		if tk.Kind == api.TkNumber {
			tk.N, ok = valueOf(tk.Text)
		}
		if !ok {
			return result{line: line(), e: api.ErrText}
		}
		l = append(l, tk)
		at += len(tk.Text)
	}
}

// shorten makes long texts readable in complaints.
func shorten(s string) string {
	if len(s) > 200 {
		return fmt.Sprintf("%q.. of %d bytes", s[:100], len(s))
	}
	return fmt.Sprintf("%q", s)
}

// checkTokens compares Tokens with the chapter's definitions and returns the tokens.
func checkTokens(t *testing.T, s string) []api.Token {
	t.Helper()
	l, line, e := Tokens(s)
	want := expectedTokens(s)
	if !slices.Equal(l, want.l) || line != want.line || e != want.e {
		t.Fatalf("%s: %s, line %d, error %d, but it is %s, line %d, error %d", shorten(s),
			shorten(fmt.Sprint(l)), line, e, shorten(fmt.Sprint(want.l)), want.line, want.e)
	}
	return l
}

// mustTokens returns the tokens of a text that has some.
func mustTokens(t *testing.T, s string) []api.Token {
	t.Helper()
	l := checkTokens(t, s)
	if len(l) == 0 {
		t.Fatalf("%s has no tokens", shorten(s))
	}
	return l
}

// describe writes tokens as kind, text, value and line.
func describe(l []api.Token) string {
	var b strings.Builder
	for _, tk := range l {
		fmt.Fprintf(&b, "%c[%s]%d@%d ", "EWTNS"[tk.Kind], tk.Text, tk.N, tk.Line)
	}
	return strings.TrimSpace(b.String())
}

// expectTokens compares the tokens of a text with a description.
func expectTokens(t *testing.T, s, want string) {
	t.Helper()
	if got := describe(mustTokens(t, s)); got != want {
		t.Errorf("%s: %s, but it is %s", shorten(s), got, want)
	}
}

// texts calls f with all texts of up to n symbols.
func texts(symbols []string, n int, f func(string)) {
	var add func(s string, n int)
	add = func(s string, n int) {
		f(s)
		if n == 0 {
			return
		}
		for _, c := range symbols {
			add(s+c, n-1)
		}
	}
	add("", n)
}

// pieces are what random texts are made of.
var pieces = append(strings.Fields(allSigns), strings.Fields("a b1 x_Y let match A B_2 Int 0 7 007 12 1000000000000 A_ aB z")...)

// gaps are what can stand between tokens.
var gaps = []string{" ", "\t", "\n", "  ", "\t\n ", "# x <=> $ \"\n", "#\n", "##\n\n", " # é\xc3\x00\r \n", "\n#a\n#b\n"}

// randomText makes a text of n pieces, with gaps between some of them, and at times a piece that is none.
func randomText(r *rand.Rand, n int, errors bool) string {
	var b strings.Builder
	for range n {
		b.WriteString(pieces[r.Intn(len(pieces))])
		if r.Intn(2) == 0 {
			b.WriteString(gaps[r.Intn(len(gaps))])
		}
		if errors && r.Intn(20) == 0 {
			b.WriteString([]string{"$", "_", "&", "1000000000001", "\x80", "\r", "é", "\"", "\\", "99999999999999999999"}[r.Intn(10)])
		}
	}
	return b.String()
}

// P5.1

func TestTokensOfTheExamples(t *testing.T) {
	expectTokens(t, "x<=>y # z", "W[x]0@1 S[<=>]0@1 W[y]0@1 E[]0@1")
	expectTokens(t, "a\n3 -> b", "W[a]0@1 N[3]3@2 S[->]0@2 W[b]0@2 E[]0@2")
	for _, s := range []string{"a $", "1000000000001"} {
		if l, line, e := Tokens(s); len(l) != 0 || line != 1 || e != api.ErrText {
			t.Errorf("%q: %v, line %d, error %d", s, l, line, e)
		}
	}
}

func TestTokensOfShortTexts(t *testing.T) {
	texts(strings.Split("a B 1 0 _ < = > - & | ! # $", " "), 4, func(s string) { checkTokens(t, s) })
	texts([]string{"a", "A", "9", "<", "#", "\n", " ", "\t", "\xc3", "é"}, 5, func(s string) { checkTokens(t, s) })
}

func TestTokensOfLongerTexts(t *testing.T) {
	r := rand.New(rand.NewSource(1))
	for i := range 4000 {
		checkTokens(t, randomText(r, r.Intn(40), i%2 == 0))
	}
	bytes := make([]byte, 30)
	for range 20000 {
		for i := range bytes {
			bytes[i] = " \t\n#aZ_09<=>-&|!+*/%(){}[],:;.?'$\x80\xc3\xa9"[r.Intn(36)]
		}
		checkTokens(t, string(bytes[:r.Intn(30)]))
	}
}

func TestSignsAlone(t *testing.T) {
	signs := strings.Fields(allSigns)
	if len(signs) != 31 {
		t.Fatalf("%d signs", len(signs))
	}
	for _, s := range signs {
		expectTokens(t, s, "S["+s+"]0@1 E[]0@1")
	}
}

func TestPairsOfSigns(t *testing.T) {
	signs := strings.Fields(allSigns)
	for _, a := range signs {
		for _, b := range signs {
			expectTokens(t, a+" "+b, "S["+a+"]0@1 S["+b+"]0@1 E[]0@1")
			checkTokens(t, a+b)
			for _, c := range signs {
				checkTokens(t, a+b+c)
			}
		}
	}
	for s, want := range map[string]string{
		"<=":    "S[<=]0@1 E[]0@1",
		"<=>":   "S[<=>]0@1 E[]0@1",
		"<==>":  "S[<=]0@1 S[=>]0@1 E[]0@1",
		"<=>=":  "S[<=>]0@1 S[=]0@1 E[]0@1",
		"<->":   "S[<]0@1 S[->]0@1 E[]0@1",
		"==>":   "S[==]0@1 S[>]0@1 E[]0@1",
		"=>=":   "S[=>]0@1 S[=]0@1 E[]0@1",
		"===":   "S[==]0@1 S[=]0@1 E[]0@1",
		"|||":   "S[||]0@1 S[|]0@1 E[]0@1",
		"&&&&":  "S[&&]0@1 S[&&]0@1 E[]0@1",
		"!==":   "S[!=]0@1 S[=]0@1 E[]0@1",
		"-->":   "S[-]0@1 S[->]0@1 E[]0@1",
		">=>":   "S[>=]0@1 S[>]0@1 E[]0@1",
		"<= >":  "S[<=]0@1 S[>]0@1 E[]0@1",
		"<\n=>": "S[<]0@1 S[=>]0@2 E[]0@2",
	} {
		expectTokens(t, s, want)
	}
}

func TestWordsTitlesAndNumbersDirectlyBehindEachOther(t *testing.T) {
	for s, want := range map[string]string{
		"12ab":   "N[12]12@1 W[ab]0@1 E[]0@1",
		"aB":     "W[aB]0@1 E[]0@1",
		"Ab_1":   "T[Ab_1]0@1 E[]0@1",
		"a1_B":   "W[a1_B]0@1 E[]0@1",
		"1A":     "N[1]1@1 T[A]0@1 E[]0@1",
		"0x1F":   "N[0]0@1 W[x1F]0@1 E[]0@1",
		"a_":     "W[a_]0@1 E[]0@1",
		"A__":    "T[A__]0@1 E[]0@1",
		"Z":      "T[Z]0@1 E[]0@1",
		"z9":     "W[z9]0@1 E[]0@1",
		"a'":     "W[a]0@1 S[']0@1 E[]0@1",
		"a.B.1":  "W[a]0@1 S[.]0@1 T[B]0@1 S[.]0@1 N[1]1@1 E[]0@1",
		"-5":     "S[-]0@1 N[5]5@1 E[]0@1",
		"1 2":    "N[1]1@1 N[2]2@1 E[]0@1",
		"a\nb\n": "W[a]0@1 W[b]0@2 E[]0@3",
	} {
		expectTokens(t, s, want)
	}
}

func TestUnderscoreBeginsNoToken(t *testing.T) {
	for _, s := range []string{"_", "_a", "1_", "a _", "(_", "12_000"} {
		if l, line, e := Tokens(s); l != nil || line != 1 || e != api.ErrText {
			t.Errorf("%q: %v, line %d, error %d", s, l, line, e)
		}
	}
}

func TestKeywordsAreWords(t *testing.T) {
	for w := range strings.FieldsSeq("and assume bool bound case cell class data def div else end false forall fun get if in inst int invariant let match measure metric mod mu new not of or qual reflect set then true use v val tag where with") {
		expectTokens(t, w, "W["+w+"]0@1 E[]0@1")
		expectTokens(t, w+"1", "W["+w+"1]0@1 E[]0@1")
	}
	expectTokens(t, "Int Bool Cell Fun", "T[Int]0@1 T[Bool]0@1 T[Cell]0@1 T[Fun]0@1 E[]0@1")
}

func TestWordsAndTitlesCanBeLong(t *testing.T) {
	for _, n := range []int{24, 25, 1000, 40000} {
		for _, c := range []string{"a", "A", "0"} {
			s := c + strings.Repeat("0", n-1)
			if l := mustTokens(t, s); len(l) != 2 || l[0].Text != s {
				t.Errorf("%s: %d tokens", shorten(s), len(l))
			}
		}
	}
}

func TestValuesOfNumbers(t *testing.T) {
	zeros := strings.Repeat("0", 30000)
	for s, want := range map[string]int{
		"0": 0, "00": 0, "007": 7, "10": 10, "9": 9, "123456789": 123456789,
		"999999999999": 999999999999, "1000000000000": 1000000000000, "0001000000000000": 1000000000000,
		zeros: 0, zeros + "1000000000000": 1000000000000,
	} {
		if l := mustTokens(t, s); len(l) != 2 || l[0].Kind != api.TkNumber || l[0].N != want || l[0].Text != s {
			t.Errorf("%s: %s", shorten(s), shorten(describe(l)))
		}
	}
}

func TestNumbersThatAreTooLarge(t *testing.T) {
	zeros, nines := strings.Repeat("0", 30000), strings.Repeat("9", 40000)
	for _, s := range []string{
		"1000000000001", "0001000000000001", "1000000000010", "9999999999999", "10000000000000",
		"9223372036854775807", "9223372036854775808", "18446744073709551616", "18446744073709551617",
		"340282366920938463463374607431768211456", zeros + "1000000000001", "1" + zeros, nines,
	} {
		for _, end := range []string{"", "a", " ", "\n"} {
			if len(s+end) > api.MaxText {
				continue
			}
			if l, line, e := Tokens(s + end); l != nil || line != 1 || e != api.ErrText {
				t.Errorf("%s: line %d, error %d", shorten(s+end), line, e)
			}
		}
		if in3 := "a\nb 3\n  " + s; len(in3) <= api.MaxText {
			if l, line, e := Tokens(in3); l != nil || line != 3 || e != api.ErrText {
				t.Errorf("%s: line %d, error %d", shorten(in3), line, e)
			}
		}
	}
}

func TestTextsWithoutTokens(t *testing.T) {
	for s, line := range map[string]int{
		"": 1, " ": 1, "\t": 1, "  \t \t": 1, "\n": 2, "\n\n\n": 4, " \n\t\n ": 3,
		"#": 1, "##": 1, "# a b c": 1, "#\n": 2, "# $\n# \"\n": 3, "#a\n#b": 2, "\t#\t": 1, "#\xff\xc3\n": 2,
		strings.Repeat("\n", 40000): 40001, "#" + strings.Repeat("x", 39999): 1, strings.Repeat("#\n", 20000): 20001,
	} {
		l := mustTokens(t, s)
		if want := []api.Token{{Kind: api.TkEnd, Line: line}}; !slices.Equal(l, want) {
			t.Errorf("%s: %s", shorten(s), describe(l))
		}
	}
}

func TestCommentsEndWithTheirLineOrTheText(t *testing.T) {
	expectTokens(t, "a#b", "W[a]0@1 E[]0@1")
	expectTokens(t, "a#b\nc", "W[a]0@1 W[c]0@2 E[]0@2")
	expectTokens(t, "a#b#c\nd#e", "W[a]0@1 W[d]0@2 E[]0@2")
	expectTokens(t, "1#2\n3", "N[1]1@1 N[3]3@2 E[]0@2")
	expectTokens(t, "<#\n=", "S[<]0@1 S[=]0@2 E[]0@2")
	// The line feed does not belong to the rune that was begun before it.
	expectTokens(t, "#\xc3\na", "W[a]0@2 E[]0@2")
	expectTokens(t, "#\xe2\x82\na", "W[a]0@2 E[]0@2")
	expectTokens(t, "#\r a\nb", "W[b]0@2 E[]0@2")
}

func TestBytesThatBeginNoToken(t *testing.T) {
	begins := func(c byte) bool {
		return strings.IndexByte(" \t\n#abcdefghijklmnopqrstuvwxyzABCDEFGHIJKLMNOPQRSTUVWXYZ0123456789-=<>!|+*/%(){}[],:;.?'", c) >= 0
	}
	for n := range 256 {
		c := string([]byte{byte(n)})
		for line, before := range map[int]string{1: "", 2: "a\n", 3: "# $\n1 \n -> ", 5: "\n\n\n\nB "} {
			l, at, e := Tokens(before + c)
			if bad := l == nil && at == line && e == api.ErrText; bad == begins(byte(n)) {
				t.Errorf("%q: %v, line %d, error %d", before+c, l, at, e)
			}
			checkTokens(t, before+c)
		}
		expectTokens(t, "a#"+strings.ReplaceAll(c, "\n", "")+"b", "W[a]0@1 E[]0@1")
		for _, before := range []string{"a", "B", "1", "<", "<=", "&", "|", "=", "!", "-", "_", "#", "'", "\xc3", "\xe2\x82", "\xf0\x9f\x98"} {
			for _, after := range []string{"", "a", "=", ">", "\n", "\n\"", "\xa9"} {
				checkTokens(t, before+c+after)
			}
		}
	}
}

func TestPairsOfBytes(t *testing.T) {
	for n := range 256 * 256 {
		checkTokens(t, string([]byte{byte(n / 256), byte(n)}))
	}
}

func TestRunesThatLookLikeLettersOrDigitsBeginNoToken(t *testing.T) {
	for _, s := range []string{"é", "Ä", "ß", "λ", "٣", "３", "Ａ", "ｓ", "\u212a", "\u017f", "\u00a0", "\u2028", "\ufeff", "\U0001d7d8", "\u3000", "\u0085"} {
		for line, before := range map[int]string{1: "a", 2: "\nB", 3: "\n\n1", 4: "\n\n\n"} {
			if l, at, e := Tokens(before + s); l != nil || at != line || e != api.ErrText {
				t.Errorf("%q: %v, line %d, error %d", before+s, l, at, e)
			}
		}
	}
}

func TestTheFirstErrorIsReturned(t *testing.T) {
	for s, line := range map[string]int{
		"$\n1000000000001": 1, "1000000000001\n$": 1, "a\n$\n$": 2, "\n\n&\n$": 3, "a & b\n$": 1, "#$\n1000000000001 $": 2,
		"1000000000000\n1000000000001": 2, "a\n\n_b": 3, "x\r\n": 1, "&&\n&&&": 2,
	} {
		checkTokens(t, s)
		if l, at, e := Tokens(s); l != nil || at != line || e != api.ErrText {
			t.Errorf("%q: %v, line %d, error %d", s, l, at, e)
		}
	}
}

func TestTextsOfMaxTextBytesAndOfMore(t *testing.T) {
	for _, s := range []string{"a", "(", " ", "\n", "#", "0", "$", "a ", "<=>=", "\xff"} {
		for _, n := range []int{39999, 40000, 40001, 40002, 100000} {
			checkTokens(t, strings.Repeat(s, n/len(s)+1)[:n])
		}
	}
	for _, s := range []string{"a", "$", "\n", "9", "#", "$\n"} {
		if l, line, e := Tokens(strings.Repeat(s, 40001)); l != nil || line != 0 || e != api.ErrLong {
			t.Errorf("%q: line %d, error %d", s, line, e)
		}
	}
	if l, _, e := Tokens(strings.Repeat("(", 40000)); len(l) != 40001 || e != api.OK {
		t.Errorf("%d tokens, error %d", len(l), e)
	}
}

// P5.2

// isToken reports whether Tokens can return a token of this kind, text and value, by the chapter's definitions.
func isToken(tk api.Token) bool {
	if tk.Kind == api.TkEnd {
		return tk.Text == "" && tk.N == 0
	}
	if len(tk.Text) > 40000 || tk.Text == "" {
		return false
	}
	n, small := 0, true
	kind, text := beginning(tk.Text)
	if kind == api.TkNumber {
		n, small = valueOf(text)
	}
	return kind == tk.Kind && text == tk.Text && n == tk.N && small
}

// expectedText writes tokens by the chapter's description.
func expectedText(l []api.Token) (string, api.Errno) {
	for i, tk := range l {
		if tk.Line < 1 || !isToken(tk) || tk.Kind == api.TkEnd && i != len(l)-1 {
			return "", api.ErrForm
		}
		if i > 0 && l[i-1].Line > tk.Line {
			return "", api.ErrOrder
		}
	}
	if len(l) > 0 && l[len(l)-1].Line > 40001 {
		return "", api.ErrLong
	}
	s := ""
	line := 1
	for i, tk := range l {
		switch {
		case tk.Line > line:
			s += strings.Repeat("\n", tk.Line-line)
		case i > 0 && tk.Kind != api.TkEnd:
			s += " "
		}
		s += tk.Text
		line = tk.Line
	}
	if len(s) > 40000 {
		return "", api.ErrLong
	}
	return s, api.OK
}

// checkText compares Text with the chapter's description.
func checkText(t *testing.T, l []api.Token) {
	t.Helper()
	s, e := Text(l)
	if want, wanted := expectedText(l); s != want || e != wanted {
		t.Errorf("%s: %s, error %d, but it is %s, error %d", shorten(fmt.Sprint(l)), shorten(s), e, shorten(want), wanted)
	}
}

func word(s string, line int) api.Token  { return api.Token{Kind: api.TkWord, Text: s, Line: line} }
func title(s string, line int) api.Token { return api.Token{Kind: api.TkTitle, Text: s, Line: line} }
func sign(s string, line int) api.Token  { return api.Token{Kind: api.TkSign, Text: s, Line: line} }
func end(line int) api.Token             { return api.Token{Kind: api.TkEnd, Line: line} }
func digits(s string, n, line int) api.Token {
	return api.Token{Kind: api.TkNumber, Text: s, N: n, Line: line}
}

// expectText compares the text of tokens with one that is written out.
func expectText(t *testing.T, want string, wanted api.Errno, l ...api.Token) {
	t.Helper()
	checkText(t, l)
	if s, e := Text(l); s != want || e != wanted {
		t.Errorf("%s: %s, error %d, but it is %s, error %d", shorten(fmt.Sprint(l)), shorten(s), e, shorten(want), wanted)
	}
}

func TestTextOfTokens(t *testing.T) {
	expectText(t, "", api.OK)
	expectText(t, "", api.OK, end(1))
	expectText(t, "\n\n", api.OK, end(3))
	expectText(t, "a", api.OK, word("a", 1))
	expectText(t, "a", api.OK, word("a", 1), end(1))
	expectText(t, "a\n", api.OK, word("a", 1), end(2))
	expectText(t, "\na", api.OK, word("a", 2))
	expectText(t, "a b\n\nC 007 <=> (", api.OK, word("a", 1), word("b", 1), title("C", 3), digits("007", 7, 3), sign("<=>", 3), sign("(", 3), end(3))
	expectText(t, "let 1000000000000\n.", api.OK, word("let", 1), digits("1000000000000", 1000000000000, 1), sign(".", 2))
	expectText(t, "< = >", api.OK, sign("<", 1), sign("=", 1), sign(">", 1), end(1))
	expectText(t, "\n\n\na\n\n\n\n", api.OK, word("a", 4), end(8))
}

func TestTextOfTokensWithLinesBelowOne(t *testing.T) {
	for _, line := range []int{0, -1, -40000, math.MinInt} {
		for _, tk := range []api.Token{word("a", line), title("A", line), digits("1", 1, line), sign("<", line), end(line)} {
			expectText(t, "", api.ErrForm, tk)
			expectText(t, "", api.ErrForm, word("b", 2), tk)
			expectText(t, "", api.ErrForm, tk, word("b", 2))
		}
	}
}

func TestTextOfTokensThatTokensNeverReturns(t *testing.T) {
	for _, s := range []string{
		"", " ", "a", "B", "1", "0", "<", "<=", "<=>", "=<", "a b", "a ", " a", "a\n", "#", "a#", "a#b", "1a", "1 ", "01", "1000000000000",
		"1000000000001", "99999999999999999999", "18446744073709551617", "_", "_a", "a_", "A_b", "$", "&", "&&", "&&&", "||", "-1", "->", "--", "==", "===", "\n", "é", "aé",
		"\xff", "a\xff", "Int", "and", "()", "'", "''", "!", "!=", "<>", "\x00", "1.5", "a.b", "\t", "1\t",
	} {
		value, _ := valueOf(s)
		for kind := api.TokenKind(-1); kind <= 6; kind++ {
			for _, n := range []int{0, 1, value, value + 1, -1, -value, math.MaxInt, math.MinInt} {
				tk := api.Token{Kind: kind, Text: s, N: n, Line: 1}
				checkText(t, []api.Token{tk})
				checkText(t, []api.Token{word("a", 1), tk, end(1)})
			}
		}
	}
	for _, kind := range []api.TokenKind{5, -1, math.MaxInt, math.MinInt, 256} {
		expectText(t, "", api.ErrForm, api.Token{Kind: kind, Line: 1})
		expectText(t, "", api.ErrForm, api.Token{Kind: kind, Text: "a", Line: 1})
	}
	expectText(t, "", api.ErrForm, api.Token{Kind: api.TkEnd, Text: "a", Line: 1})
	expectText(t, "", api.ErrForm, api.Token{Kind: api.TkEnd, N: 1, Line: 1})
	expectText(t, "", api.ErrForm, api.Token{Kind: api.TkWord, Text: "a", N: 1, Line: 1})
	expectText(t, "", api.ErrForm, api.Token{Kind: api.TkNumber, Text: "12", N: 21, Line: 1})
	expectText(t, "", api.ErrForm, api.Token{Kind: api.TkWord, Text: "A", Line: 1})
	expectText(t, "", api.ErrForm, api.Token{})
}

func TestTextOfTokensBehindTheEnd(t *testing.T) {
	expectText(t, "", api.ErrForm, end(1), word("a", 1))
	expectText(t, "", api.ErrForm, end(1), end(1))
	expectText(t, "", api.ErrForm, word("a", 1), end(1), word("b", 2), end(2))
	// The TkEnd is found at its place, before the tokens behind it are looked at.
	expectText(t, "", api.ErrForm, end(2), word("a", 1))
	expectText(t, "", api.ErrForm, word("a", 3), end(2), word("a", 1))
	expectText(t, "", api.ErrOrder, word("a", 3), end(2))
}

func TestTextOfTokensWithDecreasingLines(t *testing.T) {
	expectText(t, "", api.ErrOrder, word("a", 2), word("b", 1))
	expectText(t, "", api.ErrOrder, word("a", 2), end(1))
	expectText(t, "", api.ErrOrder, word("a", 1), word("b", 5), word("c", 4), end(9))
	expectText(t, "", api.ErrOrder, word("a", math.MaxInt), word("b", 1))
}

func TestTheOrderOfTheErrorsOfText(t *testing.T) {
	wrong := word("A", 1)
	// Each token has its form checked before its line is compared.
	expectText(t, "", api.ErrForm, word("a", 2), wrong)
	expectText(t, "", api.ErrForm, word("a", 2), word("b", 0))
	// An earlier token comes before a later one, whatever their errors are.
	expectText(t, "", api.ErrOrder, word("a", 2), word("b", 1), wrong)
	expectText(t, "", api.ErrOrder, word("a", 2), word("b", 1), end(3), end(3))
	expectText(t, "", api.ErrForm, wrong, word("a", 2), word("b", 1))
	// The length comes last.
	expectText(t, "", api.ErrForm, word("a", 50000), wrong)
	expectText(t, "", api.ErrForm, end(50000), end(50000))
	expectText(t, "", api.ErrOrder, word("a", 50000), word("b", 1))
	expectText(t, "", api.ErrLong, word("a", 50000), word("b", 50000))
	long := word(strings.Repeat("a", 40000), 1)
	expectText(t, "", api.ErrLong, long, word("b", 1))
	expectText(t, "", api.ErrForm, long, word("b", 1), wrong)
	expectText(t, "", api.ErrOrder, long, word("b", 2), word("b", 1))
	expectText(t, "", api.ErrForm, word(strings.Repeat("a", 40001), 1))
	expectText(t, "", api.ErrForm, word(strings.Repeat("a", 40001), 1), word("b", 0))
}

func TestTextOfMaxTextBytesAndOfMore(t *testing.T) {
	long := strings.Repeat("a", 40000)
	zeros := strings.Repeat("0", 40000)
	expectText(t, long, api.OK, word(long, 1))
	expectText(t, long, api.OK, word(long, 1), end(1))
	expectText(t, zeros, api.OK, digits(zeros, 0, 1), end(1))
	expectText(t, "", api.ErrLong, word(long, 1), end(2))
	expectText(t, "", api.ErrLong, word(long, 2))
	expectText(t, "", api.ErrLong, word(long, 1), sign("(", 1))
	expectText(t, long[:39998]+" (", api.OK, word(long[:39998], 1), sign("(", 1), end(1))
	expectText(t, long[:39998]+"\n(", api.OK, word(long[:39998], 1), sign("(", 2), end(2))
	expectText(t, "", api.ErrLong, word(long[:39999], 1), sign("(", 1))
	expectText(t, "", api.ErrLong, word(long[:39998], 1), sign("<=", 1))
	expectText(t, "", api.ErrLong, word(long[:39998], 1), sign("(", 2), end(3))
	many := slices.Repeat([]api.Token{sign("(", 1)}, 20001)
	checkText(t, many[:20000])
	if s, e := Text(many[:20000]); len(s) != 39999 || e != api.OK {
		t.Errorf("%d bytes, error %d", len(s), e)
	}
	expectText(t, "", api.ErrLong, many...)
}

func TestTextOfTokensWhoseLinesAreFarApart(t *testing.T) {
	feeds := strings.Repeat("\n", 40000)
	expectText(t, feeds, api.OK, end(40001))
	expectText(t, feeds[1:]+"a", api.OK, word("a", 40000))
	expectText(t, "a"+feeds[1:], api.OK, word("a", 1), end(40000))
	expectText(t, "", api.ErrLong, end(40002))
	expectText(t, "", api.ErrLong, word("a", 40001))
	expectText(t, "", api.ErrLong, word("a", 1), end(40001))
	for _, line := range []int{40003, 50000, 1 << 32, 1<<32 + 1, math.MaxInt - 1, math.MaxInt} {
		expectText(t, "", api.ErrLong, end(line))
		expectText(t, "", api.ErrLong, word("a", line))
		expectText(t, "", api.ErrLong, word("a", 1), word("b", line), word("c", line), end(line))
		expectText(t, "", api.ErrLong, word("a", line), word("b", math.MaxInt), end(math.MaxInt))
	}
	// Each gap is short, all of them together are too long.
	expectText(t, "", api.ErrLong, word("a", 20000), word("a", 39000), word("a", 40001), end(40001))
}

func TestTextOfAnyLists(t *testing.T) {
	r := rand.New(rand.NewSource(2))
	for range 30000 {
		var l []api.Token
		line := 1
		for range r.Intn(6) {
			line += r.Intn(3)
			text := pieces[r.Intn(len(pieces))]
			tk := api.Token{Text: text, Line: line}
			tk.Kind, _ = beginning(text)
			if tk.Kind == api.TkNumber {
				tk.N, _ = valueOf(text)
			}
			switch r.Intn(25) {
			case 0:
				tk.Kind = api.TokenKind(r.Intn(7) - 1)
			case 1:
				tk.Line -= r.Intn(4)
			case 2:
				tk.N++
			case 3:
				tk.Text += pieces[r.Intn(len(pieces))]
			case 4:
				tk = end(line)
			}
			l = append(l, tk)
		}
		if r.Intn(2) == 0 {
			l = append(l, end(line+r.Intn(2)))
		}
		checkText(t, l)
	}
}

func TestSame(t *testing.T) {
	l := []api.Token{word("a", 1), digits("1", 1, 2), sign("<", 2), end(3)}
	if !Same(l, slices.Clone(l)) || !Same(l, l) || !Same(nil, nil) || !Same(nil, []api.Token{}) || !Same([]api.Token{}, nil) {
		t.Error("lists that are the same")
	}
	for i := range l {
		if Same(l, l[:i]) || Same(l[:i], l) || Same(l, append(slices.Clone(l[:i]), l[i+1:]...)) {
			t.Errorf("lists of different lengths: %d", i)
		}
		for _, tk := range []api.Token{
			{Kind: l[i].Kind + 1, Text: l[i].Text, N: l[i].N, Line: l[i].Line},
			{Kind: l[i].Kind, Text: l[i].Text + "a", N: l[i].N, Line: l[i].Line},
			{Kind: l[i].Kind, Text: l[i].Text, N: l[i].N + 1, Line: l[i].Line},
			{Kind: l[i].Kind, Text: l[i].Text, N: l[i].N, Line: l[i].Line + 1},
			{},
		} {
			other := slices.Clone(l)
			other[i] = tk
			if Same(l, other) || Same(other, l) {
				t.Errorf("%v instead of %v", tk, l[i])
			}
		}
	}
	if Same([]api.Token{l[0], l[1]}, []api.Token{l[1], l[0]}) || Same(nil, []api.Token{{}}) || Same([]api.Token{{}}, nil) {
		t.Error("lists that are not the same")
	}
	// Lists are compared, whether Tokens returns them or not.
	if odd := []api.Token{{Kind: -5, Text: "\xff", N: math.MinInt, Line: -1}, end(0), end(0)}; !Same(odd, slices.Clone(odd)) {
		t.Error("odd lists that are the same")
	}
}

func TestLines(t *testing.T) {
	for _, c := range []struct {
		l []api.Token
		n int
	}{
		{nil, 0},
		{[]api.Token{}, 0},
		{[]api.Token{end(1)}, 0},
		{[]api.Token{end(7), end(8), end(9)}, 0},
		{[]api.Token{word("a", 1)}, 1},
		{[]api.Token{word("a", 1), end(2)}, 1},
		{[]api.Token{word("a", 1), word("a", 1), word("b", 1), end(1)}, 1},
		{[]api.Token{word("a", 1), word("a", 3), word("b", 3), end(4)}, 2},
		{[]api.Token{word("a", 5), title("A", 6), digits("1", 1, 7), sign("<", 8), end(9)}, 4},
		{[]api.Token{word("a", 2), word("a", 1), word("a", 2), word("a", 1)}, 2},
		{[]api.Token{end(1), word("a", 0), word("a", -1), end(3), word("a", math.MaxInt), word("a", math.MinInt)}, 4},
		{[]api.Token{{Kind: 99, Line: 1}, {Kind: -1, Line: 2}}, 2},
	} {
		if n := Lines(c.l); n != c.n {
			t.Errorf("%v: %d, but it is %d", c.l, n, c.n)
		}
	}
	if n := Lines(mustTokens(t, "a b\n\n# c\nd\n\n")); n != 2 {
		t.Errorf("%d lines", n)
	}
}

// P5.3

// checkRoundTrip checks both directions of P5.3 for a text.
func checkRoundTrip(t *testing.T, s string) {
	t.Helper()
	l, _, e := Tokens(s)
	if e != api.OK {
		return
	}
	canonical, e := Text(l)
	if e == api.ErrLong && len(s) > 10000 {
		return
	}
	again, line, e2 := Tokens(canonical)
	if e != api.OK || e2 != api.OK || line != 0 || !Same(l, again) {
		t.Fatalf("%s: %s, error %d, which has %s", shorten(s), shorten(canonical), e, shorten(describe(again)))
	}
	if text, e := Text(again); text != canonical || e != api.OK {
		t.Fatalf("%s: %s instead of %s", shorten(s), shorten(text), shorten(canonical))
	}
	// The text does not depend on the TkEnd, as long as no line feeds stand before it.
	open, e := Text(l[:len(l)-1])
	if e != api.OK || open != strings.TrimRight(canonical, "\n") {
		t.Fatalf("%s: %s, error %d, without the end", shorten(s), shorten(open), e)
	}
	if text, e := Text(expectedTokens(open).l); text != open || e != api.OK {
		t.Fatalf("%s: %s, error %d, after closing it", shorten(open), shorten(text), e)
	}
}

func TestRoundTripOfShortTexts(t *testing.T) {
	texts(strings.Split("a B 1 _ < = > - & | ! #", " "), 4, func(s string) { checkRoundTrip(t, s) })
	texts([]string{"a", "A", "9", "<", "#", "\n", " ", "\t"}, 5, func(s string) { checkRoundTrip(t, s) })
}

func TestRoundTripOfLongerTexts(t *testing.T) {
	r := rand.New(rand.NewSource(3))
	for range 4000 {
		checkRoundTrip(t, randomText(r, r.Intn(60), false))
	}
	for _, s := range []string{"(", "a ", "\n", "a\n", "# \n", "1a"} {
		checkRoundTrip(t, strings.Repeat(s, 40000/len(s)))
		checkRoundTrip(t, strings.Repeat(s, 9000/len(s)))
	}
}

func TestRoundTripOfCanonicalTexts(t *testing.T) {
	for _, s := range []string{
		"", "\n", "\n\n\n", "a", "\na", "a\n", "a b\nc", "< =>\n\n\n= A 007 1000000000000", "let x = ( 1 + 2 ) in\n\ndata List\n",
		strings.Repeat("\n", 40000), strings.Repeat("a", 40000), strings.Repeat("( ", 19999) + "(", strings.Repeat("a\n", 20000),
	} {
		if text, e := Text(mustTokens(t, s)); text != s || e != api.OK {
			t.Errorf("%s: %s, error %d", shorten(s), shorten(text), e)
		}
	}
}

func TestNotCanonicalTextsBecomeCanonical(t *testing.T) {
	for s, want := range map[string]string{
		"a  b": "a b", " a": "a", "a ": "a", "a\tb": "a b", "a # b": "a", "a # b\n": "a\n", "(a)": "( a )", "1a": "1 a",
		" \n a": "\na", "a \n": "a\n", "#": "", "# \n\t": "\n", "<=>=": "<=> =",
	} {
		if text, e := Text(mustTokens(t, s)); text != want || e != api.OK {
			t.Errorf("%q: %q, error %d, but it is %q", s, text, e, want)
		}
	}
}

// P5.4

// withoutLines returns tokens without their lines.
func withoutLines(l []api.Token) []api.Token {
	m := slices.Clone(l)
	for i := range m {
		m[i].Line = 0
	}
	return m
}

func TestGapsChangeNoTokens(t *testing.T) {
	r := rand.New(rand.NewSource(4))
	for range 3000 {
		l := checkTokens(t, randomText(r, r.Intn(20), false))
		if len(l) == 0 {
			continue // pieces that stand directly behind each other can be a number that is too large
		}
		var b strings.Builder
		line := 1
		want := slices.Clone(l)
		for i, tk := range l {
			for range 1 + r.Intn(3) {
				g := gaps[r.Intn(len(gaps))]
				b.WriteString(g)
				line += strings.Count(g, "\n")
			}
			b.WriteString(tk.Text)
			want[i].Line = line
		}
		got := mustTokens(t, b.String())
		if !slices.Equal(withoutLines(got), withoutLines(l)) || !slices.Equal(got, want) {
			t.Fatalf("%q: %s, but it is %s", b.String(), describe(got), describe(want))
		}
	}
}

func TestGapsWithoutLineFeedsChangeNoLines(t *testing.T) {
	l := mustTokens(t, "let x_1 <=> 12\nB && # c\n\n 3 ' z")
	for _, g := range []string{" ", "\t", "   ", " \t ", "\t\t"} {
		var b strings.Builder
		line := 1
		for _, tk := range l {
			b.WriteString(strings.Repeat("\n", tk.Line-line) + g + tk.Text + g)
			line = tk.Line
		}
		for _, s := range []string{b.String(), b.String() + "# the end", b.String() + "#"} {
			if !Same(mustTokens(t, s), l) {
				t.Errorf("%q: %s", s, describe(checkTokens(t, s)))
			}
		}
		// A comment at the end of each line changes nothing either.
		if s := strings.ReplaceAll(b.String(), "\n", "#$ \"1000000000001\n"); !Same(mustTokens(t, s), l) {
			t.Errorf("%q: %s", s, describe(checkTokens(t, s)))
		}
	}
}

func TestLineFeedsChangeLinesAlone(t *testing.T) {
	expectTokens(t, "a b", "W[a]0@1 W[b]0@1 E[]0@1")
	expectTokens(t, "\na\n\nb\n", "W[a]0@2 W[b]0@4 E[]0@5")
	expectTokens(t, "#x\na#y\n#z\nb#\n", "W[a]0@2 W[b]0@4 E[]0@5")
}

// The rules of the document that concern all functions

func TestArgumentsAreNotChanged(t *testing.T) {
	whole := []api.Token{word("a", 1), title("B", 2), digits("1", 1, 2), sign("<", 3), end(4), word("kept", 9), word("kept", 9)}
	for _, l := range [][]api.Token{whole[:5], whole[:4], whole[:0], whole, whole[2:4:5]} {
		before := slices.Clone(whole)
		Text(l)
		Lines(l)
		Same(l, whole)
		Same(whole, l)
		if !slices.Equal(whole, before) {
			t.Fatalf("changed to %v", whole)
		}
	}
}

func TestResultsShareNothing(t *testing.T) {
	s := "let x = 1"
	l := mustTokens(t, s)
	again := mustTokens(t, s)
	for i := range l {
		l[i] = api.Token{Text: "changed"}
	}
	l = append(l[:1], word("more", 1))
	if s != "let x = 1" || !Same(again, mustTokens(t, s)) || len(l) != 2 {
		t.Error("a change of a result is seen")
	}
	m := slices.Clone(again)
	text, _ := Text(m)
	m[0].Text = "changed"
	if text != "let x = 1" {
		t.Errorf("the text is %q", text)
	}
}

func TestTheSameArgumentsGiveTheSameResults(t *testing.T) {
	for _, s := range []string{"", "a\nb", "a $", strings.Repeat("a\n", 10)} {
		l, line, e := Tokens(s)
		for range 20 {
			l2, line2, e2 := Tokens(s)
			text, e3 := Text(l)
			text2, e4 := Text(l2)
			if !Same(l, l2) || line != line2 || e != e2 || text != text2 || e3 != e4 || Lines(l) != Lines(l2) {
				t.Errorf("%q has several results", s)
			}
		}
	}
}
