package token

import (
	"math"
	"math/rand"
	"regexp"
	"slices"
	"strconv"
	"strings"
	"testing"
	"timebound/api"
)

func name(s string, line int) api.Token { return api.Token{Kind: api.TokenName, Text: s, Line: line} }

func num(n, line int) api.Token { return api.Token{Kind: api.TokenNum, Num: n, Line: line} }

func sign(s string, line int) api.Token { return api.Token{Kind: api.TokenSign, Text: s, Line: line} }

// allSigns are the signs of the chapter.
var allSigns = strings.Fields("+ - * / % & | ^ << >> < <= == != = ( ) [ ] { }")

// brief is a text as it is written in a message.
func brief(text string) string {
	if len(text) > 60 {
		return strconv.Quote(text[:60]) + ".. (" + strconv.Itoa(len(text)) + " bytes)"
	}
	return strconv.Quote(text)
}

func scans(t *testing.T, text string, want ...api.Token) {
	t.Helper()
	if got, line, e := Scan(text); e != api.OK || line != 0 || !slices.Equal(got, want) {
		t.Errorf("Scan(%s) = %+v, %d, %d, not %+v", brief(text), got, line, e, want)
	}
}

func fails(t *testing.T, text string, line int, want api.Errno) {
	t.Helper()
	if got, at, e := Scan(text); e != want || at != line || len(got) != 0 {
		t.Errorf("Scan(%s) = %+v, line %d, error %d, not line %d, error %d", brief(text), got, at, e, line, want)
	}
}

// P2.1: tokens

func TestNothing(t *testing.T) {
	for _, text := range []string{"", " ", "\t", "\n", " \t\n", "\n\n\n", strings.Repeat("\n", api.MaxSource)} {
		scans(t, text)
	}
}

func TestProgramText(t *testing.T) {
	scans(t, "task t period 10\n\tvar x\nbody\n  while x <= 3 max 4 label 1 {\n    x = x - -1\n  }\nend\n",
		name("task", 1), name("t", 1), name("period", 1), num(10, 1),
		name("var", 2), name("x", 2),
		name("body", 3),
		name("while", 4), name("x", 4), sign("<=", 4), num(3, 4), name("max", 4), num(4, 4), name("label", 4), num(1, 4), sign("{", 4),
		name("x", 5), sign("=", 5), name("x", 5), sign("-", 5), sign("-", 5), num(1, 5),
		sign("}", 6),
		name("end", 7))
}

func TestSeparators(t *testing.T) {
	for _, gap := range []string{" ", "\t", "  ", " \t ", "\t\t"} {
		scans(t, gap+"a"+gap+"b"+gap+"1"+gap+"+"+gap, name("a", 1), name("b", 1), num(1, 1), sign("+", 1))
	}
}

func TestLines(t *testing.T) {
	scans(t, "a\nb", name("a", 1), name("b", 2))
	scans(t, "\na", name("a", 2))
	scans(t, "a\n\n b1c 007", name("a", 1), name("b1c", 3), num(7, 3))
	scans(t, "1\n2\n\n\n3\n", num(1, 1), num(2, 2), num(3, 5))
	scans(t, "<\n<\n=", sign("<", 1), sign("<", 2), sign("=", 3))
	scans(t, strings.Repeat("\n", 5000)+"a", name("a", 5001))
}

func TestSigns(t *testing.T) {
	for _, s := range allSigns {
		scans(t, s, sign(s, 1))
		scans(t, "a"+s+"1", name("a", 1), sign(s, 1), num(1, 1))
	}
}

func TestLongestSigns(t *testing.T) {
	scans(t, "i<=10", name("i", 1), sign("<=", 1), num(10, 1))
	scans(t, "<<=", sign("<<", 1), sign("=", 1))
	scans(t, "<<<", sign("<<", 1), sign("<", 1))
	scans(t, "<<<=", sign("<<", 1), sign("<=", 1))
	scans(t, "===", sign("==", 1), sign("=", 1))
	scans(t, "<==", sign("<=", 1), sign("=", 1))
	scans(t, "!==", sign("!=", 1), sign("=", 1))
	scans(t, "=<", sign("=", 1), sign("<", 1))
	scans(t, ">>>>", sign(">>", 1), sign(">>", 1))
	scans(t, "< <", sign("<", 1), sign("<", 1))
	scans(t, "= =", sign("=", 1), sign("=", 1))
}

func TestMinusIsASignOfItsOwn(t *testing.T) {
	scans(t, "-5", sign("-", 1), num(5, 1))
	scans(t, "a-5", name("a", 1), sign("-", 1), num(5, 1))
	scans(t, "--0", sign("-", 1), sign("-", 1), num(0, 1))
	scans(t, "-2147483647", sign("-", 1), num(greatest, 1))
	fails(t, "-2147483648", 1, api.ErrText)
}

func TestNamesOfSources(t *testing.T) {
	for _, s := range []string{"a", "z", "az09", "if", "x1y2z3", "abcdefghijkl", "a12345678901"} {
		scans(t, s, name(s, 1))
	}
	scans(t, "abcdefghijkl abcdefghijkl\nabcdefghijkl", name("abcdefghijkl", 1), name("abcdefghijkl", 1), name("abcdefghijkl", 2))
	fails(t, "abcdefghijklm", 1, api.ErrText)
	fails(t, "a\nb\na123456789012", 3, api.ErrText)
	fails(t, strings.Repeat("a", api.MaxSource), 1, api.ErrText)
}

func TestNumbersOfSources(t *testing.T) {
	zeros := strings.Repeat("0", 3000)
	for _, c := range []struct {
		text string
		want int
	}{
		{"0", 0}, {"9", 9}, {"10", 10}, {"000", 0}, {"007", 7}, {"1234567890", 1234567890},
		{"2147483646", greatest - 1}, {"2147483647", greatest}, {"0002147483647", greatest}, {zeros, 0}, {zeros + "2147483647", greatest},
	} {
		scans(t, c.text, num(c.want, 1))
	}
	for _, text := range []string{
		"2147483648", "2147483650", "3000000000", "4294967295", "4294967296", "4294967301", "0002147483648", zeros + "2147483648", "21474836470",
		"9223372036854775807", "9223372036854775808", "18446744073709551615", "18446744073709551616", "18446744073709551621",
		strings.Repeat("9", api.MaxSource), "1" + strings.Repeat("0", 64), "1" + strings.Repeat("0", api.MaxSource-1),
	} {
		fails(t, text, 1, api.ErrText)
		fails(t, "a\n"+text[:min(len(text), api.MaxSource-3)]+"\n", 2, api.ErrText)
	}
}

func TestNamesAfterNumbers(t *testing.T) {
	scans(t, "12ab", num(12, 1), name("ab", 1))
	scans(t, "0x1f", num(0, 1), name("x1f", 1))
	scans(t, "1e3", num(1, 1), name("e3", 1))
	scans(t, "1abcdefghijkl", num(1, 1), name("abcdefghijkl", 1))
	fails(t, "1abcdefghijklm", 1, api.ErrText)
}

// P2.1: errors

func TestBytesOutsideOfTheSigns(t *testing.T) {
	begins := "abcdefghijklmnopqrstuvwxyz0123456789+-*/%&|^<=()[]{} \t\n"
	for c := range 256 {
		text := string([]byte{byte(c)})
		if strings.Contains(begins, text) {
			if _, line, e := Scan(text); e != api.OK || line != 0 {
				t.Errorf("Scan(%q): %d, %d", text, line, e)
			}
			continue
		}
		fails(t, text, 1, api.ErrText)
		fails(t, "a "+text, 1, api.ErrText)
		fails(t, "\n"+text+" a", 2, api.ErrText)
		fails(t, "a"+text, 1, api.ErrText)
		fails(t, "1"+text, 1, api.ErrText)
	}
	for _, text := range []string{"!", "! =", "!\n=", ">", "> >", ">\n>", ">=", ">>>", "a>b", "aB", "x_1", "1.5", "a;", "a,b", "\"a\"", "#", "\u00e4", "\u2264", "a\u0308", "a\rb", "\v", "\f", "\u00a0", "\u2028", "\xff\xfe", "\xef\xbb\xbfa"} {
		fails(t, text, 1, api.ErrText)
	}
}

func TestLineOfTheFirstError(t *testing.T) {
	fails(t, "a\nb !", 2, api.ErrText)
	fails(t, "a\n!\n!", 2, api.ErrText)
	fails(t, "\n\n99999999999999999999999\n!", 3, api.ErrText)
	fails(t, "!\n99999999999\nabcdefghijklm", 1, api.ErrText)
	fails(t, "1\nabcdefghijklm\n99999999999", 2, api.ErrText)
	fails(t, "a\n\n\n\n_\n", 5, api.ErrText)
	fails(t, strings.Repeat("\n", api.MaxSource-1)+"!", api.MaxSource, api.ErrText)
}

func TestMaxSource(t *testing.T) {
	half := strings.Repeat("a ", api.MaxSource/2)
	want := slices.Repeat([]api.Token{name("a", 1)}, api.MaxSource/2)
	scans(t, half, want...)
	scans(t, strings.Repeat("(", api.MaxSource), slices.Repeat([]api.Token{sign("(", 1)}, api.MaxSource)...)
	fails(t, half+" ", 0, api.ErrLimit)
	fails(t, half+"\n", 0, api.ErrLimit)
	fails(t, strings.Repeat("\n", api.MaxSource+1), 0, api.ErrLimit)
	fails(t, strings.Repeat("1", 1<<20), 0, api.ErrLimit)
	// A text that is too long is not looked at, whatever else is wrong in it.
	fails(t, strings.Repeat("!", api.MaxSource+1), 0, api.ErrLimit)
	fails(t, strings.Repeat("!", api.MaxSource), 1, api.ErrText)
}

// P2.1: comparison with a grammar

var grammar = regexp.MustCompile(`^(?:([ \t\n])|([a-z][a-z0-9]*)|([0-9]+)|(<<|>>|<=|==|!=|[-+*/%&|^<=()\[\]{}]))`)

// expected is what Scan returns for a text within MaxSource, by the grammar.
func expected(text string) ([]api.Token, int, api.Errno) {
	line := 1
	var list []api.Token
	for text != "" {
		m := grammar.FindStringSubmatch(text)
		if m == nil {
			return nil, line, api.ErrText
		}
		switch {
		case m[1] != "":
			line += strings.Count(m[1], "\n")
		case m[2] != "":
			if len(m[2]) > api.MaxName {
				return nil, line, api.ErrText
			}
			list = append(list, name(m[2], line))
		case m[3] != "":
			n, err := strconv.ParseInt(m[3], 10, 32)
			if err != nil {
				return nil, line, api.ErrText
			}
			list = append(list, num(int(n), line))
		default:
			list = append(list, sign(m[4], line))
		}
		text = text[len(m[0]):]
	}
	return list, 0, api.OK
}

func agrees(t *testing.T, text string) {
	t.Helper()
	want, line, e := expected(text)
	if e != api.OK {
		fails(t, text, line, e)
		return
	}
	scans(t, text, want...)
}

func TestAllPairsOfBytes(t *testing.T) {
	for a := range 256 {
		for b := range 256 {
			agrees(t, string([]byte{byte(a), byte(b)}))
		}
	}
}

func TestSequencesOfSigns(t *testing.T) {
	const bytes = "<>=!-a1 \n"
	for _, a := range bytes {
		for _, b := range bytes {
			for _, c := range bytes {
				for _, d := range bytes {
					agrees(t, string([]rune{a, b, c, d}))
				}
			}
		}
	}
}

func TestTextsOfParts(t *testing.T) {
	parts := append(slices.Clone(allSigns), " ", "\t", "\n", "a", "b2", "while", "abcdef", "0", "7", "42", "2147483647", "2147483648", "21474", "!", ">", "A", "\x00", "\xc3")
	r := rand.New(rand.NewSource(2))
	for range 20000 {
		var text strings.Builder
		for range r.Intn(12) {
			text.WriteString(parts[r.Intn(len(parts))])
		}
		agrees(t, text.String())
	}
}

// P2.2

func TestName(t *testing.T) {
	for s, want := range map[string]bool{
		"": false, "a": true, "z": true, "a1": true, "z09": true, "if": true, "end": true, "1a": false, "1": false, "0": false,
		"aB": false, "Ab": false, "A": false, "a b": false, " a": false, "a ": false, "a\n": false, "a_b": false, "a-b": false, "_": false,
		"a\x00": false, "\x00a": false, "\u00e4": false, "a\u00e4": false, "a\xff": false, "`": false, "{": false, "a{": false, "a/": false, "a:": false, "+": false,
		"abcdefghijkl": true, "abcdefghijklm": false, "a23456789012": true, "a234567890123": false, "abcdefghijklM": false, "abcdefghijkL": false,
	} {
		if Name(s) != want {
			t.Errorf("Name(%q) is not %v", s, want)
		}
	}
	for n := range 40 {
		if got, want := Name(strings.Repeat("q", n)), 1 <= n && n <= api.MaxName; got != want {
			t.Errorf("%d bytes: %v", n, got)
		}
	}
	if Name(strings.Repeat("a", 1<<20)) {
		t.Error("a long text is a name")
	}
}

// TestNameAgainstScan compares Name with what Scan takes for one name, for all pairs of bytes.
func TestNameAgainstScan(t *testing.T) {
	for a := range 256 {
		for b := range 256 {
			s := string([]byte{byte(a), byte(b)})
			l, _, e := Scan(s)
			if want := e == api.OK && slices.Equal(l, []api.Token{name(s, 1)}); Name(s) != want {
				t.Errorf("Name(%q) is not %v", s, want)
			}
		}
	}
}

func TestWord(t *testing.T) {
	for _, c := range []struct {
		token api.Token
		want  string
	}{
		{name("ab", 1), "ab"}, {name("ab", 77), "ab"}, {sign("<<", 1), "<<"}, {sign("-", 3), "-"},
		{num(0, 1), "0"}, {num(7, 1), "7"}, {num(12, 5), "12"}, {num(greatest-1, 1), "2147483646"}, {num(greatest, 1), "2147483647"},
		{num(greatest+1, 1), "0"}, {num(1<<32+5, 1), "0"}, {num(math.MaxInt, 1), "0"}, {num(-1, 1), "0"}, {num(-greatest, 1), "0"}, {num(math.MinInt, 1), "0"},
		// Tokens need not be those of a text.
		{api.Token{Kind: api.TokenName, Text: "no name", Num: 3}, "no name"}, {api.Token{Kind: api.TokenName}, ""},
		{api.Token{Kind: api.TokenSign, Text: "?", Num: 3}, "?"}, {api.Token{Kind: api.TokenSign, Text: "\xff"}, "\xff"}, {api.Token{Kind: api.TokenSign, Num: 3}, ""},
		{api.Token{Kind: api.TokenNum, Num: 5, Text: "x"}, "5"}, {api.Token{Kind: api.TokenNum, Text: "9"}, "0"},
	} {
		if got := Word(c.token); got != c.want {
			t.Errorf("Word(%+v) = %q, not %q", c.token, got, c.want)
		}
	}
}

func TestWordOfOtherKinds(t *testing.T) {
	for _, kind := range []int{0, -1, -3, 4, 5, 256 + api.TokenName, 1<<32 + api.TokenNum, math.MaxInt, math.MinInt} {
		if got := Word(api.Token{Kind: kind, Text: "x", Num: 3, Line: 1}); got != "" {
			t.Errorf("kind %d: %q", kind, got)
		}
	}
}

// TestWordsHaveTheSameTokens is the chapter's consequence.
func TestWordsHaveTheSameTokens(t *testing.T) {
	for _, text := range []string{
		"", "i<=10", "<<=<<>>==!==", "a\n\nb007 0008", "(a[1]){}%&|^*/+-", "12ab--3\n\n-4", "2147483647abcdefghijkl",
		"if x!=y label 2{\nx=(x<<3)%y\n}else{\nlock r{y[x]=1}\n}",
	} {
		l, _, e := Scan(text)
		if e != api.OK {
			t.Fatalf("Scan(%q): %d", text, e)
		}
		var words []string
		for i := range l {
			words = append(words, Word(l[i]))
			l[i].Line = 1
		}
		scans(t, strings.Join(words, " "), l...)
	}
}
