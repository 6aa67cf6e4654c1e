package lex

import (
	"math"
	"regexp"
	"slices"
	"strings"
	"testing"

	"signatory/api"
)

const (
	signs    = "{}();,=:.<>!+-*/"
	letters  = "ABCDEFGHIJKLMNOPQRSTUVWXYZabcdefghijklmnopqrstuvwxyz"
	digits   = "0123456789"
	allWhite = " \t\n\r"
)

func name(s string, at int) api.Token { return api.Token{Kind: api.NameT, Text: s, At: at} }

func num(n, at int) api.Token { return api.Token{Kind: api.NumberT, N: n, At: at} }

func sig(s string, at int) api.Token { return api.Token{Kind: api.SignT, Text: s, At: at} }

// accepts checks that a source has these tokens, with these places.
func accepts(t *testing.T, src string, want ...api.Token) {
	t.Helper()
	if l, at, e := Lex(src); e != api.OK || at != 0 || !slices.Equal(l, want) {
		t.Errorf("%.60q: %v %d %d, not %v", src, l, at, e, want)
	}
}

// refuses checks that a source leads to ErrText at this place, and to no tokens.
func refuses(t *testing.T, src string, want int) {
	t.Helper()
	if l, at, e := Lex(src); e != api.ErrText || at != want || len(l) != 0 {
		t.Errorf("%.60q: %v %d %d, not ErrText at %d", src, l, at, e, want)
	}
}

// P3.1: sources without tokens.
func TestLexNothing(t *testing.T) {
	for _, src := range []string{
		"", " ", "\t", "\n", "\r", " \t\r\n \n", "//", "///", "// a", "// a // b", "//\n", "// a\n// b\n\n", " //\r", "////", "//\n//",
	} {
		accepts(t, src)
	}
}

// P3.1: the examples of the chapter.
func TestLexExamples(t *testing.T) {
	accepts(t, "sum 30;", name("sum", 0), num(30, 4), sig(";", 6))
	refuses(t, "007", 0)
	accepts(t, "1099511627776", num(1<<40, 0))
	accepts(t, "a // b", name("a", 0))
	refuses(t, "a $", 2)
	accepts(t, "a=1", name("a", 0), sig("=", 1), num(1, 2))
}

// P3.1: what each byte begins, alone, after a name, and after a number.
func TestLexBytes(t *testing.T) {
	for i := range 256 {
		b := string([]byte{byte(i)})
		switch {
		case strings.Contains(allWhite, b):
			accepts(t, b)
			accepts(t, "a"+b+"c", name("a", 0), name("c", 2))
			accepts(t, "1"+b+"2", num(1, 0), num(2, 2))
		case strings.Contains(signs, b):
			accepts(t, b, sig(b, 0))
			accepts(t, "a"+b+"c", name("a", 0), sig(b, 1), name("c", 2))
			accepts(t, "1"+b+"2", num(1, 0), sig(b, 1), num(2, 2))
		case strings.Contains(letters, b):
			accepts(t, b, name(b, 0))
			accepts(t, "a"+b+"c", name("a"+b+"c", 0))
			accepts(t, "1"+b+"2", num(1, 0), name(b+"2", 1))
		case strings.Contains(digits, b):
			n := i - '0'
			accepts(t, b, num(n, 0))
			accepts(t, "a"+b+"c", name("a"+b+"c", 0))
			accepts(t, "1"+b+"2", num(102+10*n, 0))
		case b == "_":
			refuses(t, b, 0)
			accepts(t, "a_c", name("a_c", 0))
			refuses(t, "1_2", 1)
		default:
			refuses(t, b, 0)
			refuses(t, "a"+b+"c", 1)
			refuses(t, "1"+b+"2", 1)
		}
	}
}

// P3.1: a comment goes up to the next line feed, whatever bytes are in it.
func TestLexComments(t *testing.T) {
	for i := range 256 {
		b := string([]byte{byte(i)})
		if b == "\n" {
			accepts(t, "a//\nc", name("a", 0), name("c", 4))
			continue
		}
		accepts(t, "a//"+b+" d\nc", name("a", 0), name("c", 7))
		accepts(t, "//"+b)
	}
	accepts(t, "/", sig("/", 0))
	accepts(t, "/ /", sig("/", 0), sig("/", 2))
	accepts(t, "/\n/", sig("/", 0), sig("/", 2))
	accepts(t, "1/2", num(1, 0), sig("/", 1), num(2, 2))
	accepts(t, "1/a//b", num(1, 0), sig("/", 1), name("a", 2))
	accepts(t, "/*/", sig("/", 0), sig("*", 1), sig("/", 2))
	accepts(t, "*//*\n/", sig("*", 0), sig("/", 5))
	accepts(t, "// a\r b\n;", sig(";", 8))
	refuses(t, "// 007\n007 // 007", 7)
}

// P3.1: names have at most MaxName bytes.
func TestLexNames(t *testing.T) {
	for _, s := range []string{"a", "Z", "a_", "a__1_", "B_12", "a0", "x007", letters[:32], strings.Repeat("x", api.MaxName), "x" + strings.Repeat("_", api.MaxName-1)} {
		accepts(t, s, name(s, 0))
		accepts(t, ";"+s+";", sig(";", 0), name(s, 1), sig(";", 1+len(s)))
	}
	accepts(t, "12ab", num(12, 0), name("ab", 2))
	accepts(t, "0a1", num(0, 0), name("a1", 1))
	for _, s := range []string{"_", "_a", "_12", strings.Repeat("x", api.MaxName+1), "x" + strings.Repeat("1", api.MaxName), strings.Repeat("x", 1000), letters} {
		refuses(t, s, 0)
		refuses(t, " a\n"+s+" $", 3)
	}
	long := strings.Repeat("x", api.MaxName)
	accepts(t, long+" "+long, name(long, 0), name(long, api.MaxName+1))
	accepts(t, long+"-"+long, name(long, 0), sig("-", api.MaxName), name(long, api.MaxName+1))
}

// P3.1: numbers are at most 2^40, without superfluous zeros.
func TestLexNumbers(t *testing.T) {
	for s, n := range map[string]int{
		"0": 0, "1": 1, "9": 9, "10": 10, "100": 100, "1234567890": 1234567890,
		"999999999999": 999999999999, "1000000000000": 1000000000000,
		"1099511627775": 1<<40 - 1, "1099511627776": 1 << 40,
	} {
		accepts(t, s, num(n, 0))
		accepts(t, "-"+s+".", sig("-", 0), num(n, 1), sig(".", 1+len(s)))
	}
	for _, s := range []string{
		"00", "01", "007", "000000", "01099511627776", "1099511627777", "1099511627780", "1099511627786", "1199511627776", "2000000000000",
		"10995116277760", "9223372036854775807", "9223372036854775808", "18446744073709551616", "18446744073709551617",
		"36893488147419103233", strings.Repeat("9", 40), "1" + strings.Repeat("0", 40), "1" + strings.Repeat("0", 64), strings.Repeat("0", 1000), strings.Repeat("1", 1000),
		"00a", "01_", "1099511627777a",
	} {
		refuses(t, s, 0)
		refuses(t, "a + "+s, 4)
	}
	accepts(t, "0 0", num(0, 0), num(0, 2))
	accepts(t, "1.0", num(1, 0), sig(".", 1), num(0, 2))
	refuses(t, "1.00", 2)
}

// P3.1: the first wrong token counts, and nothing behind it.
func TestLexFirstError(t *testing.T) {
	refuses(t, "$ 007", 0)
	refuses(t, "007 $", 0)
	refuses(t, "a 1 ; _b 00 $", 6)
	refuses(t, "a 1 ; // $\n \"", 12)
	refuses(t, "\xc3\xa9", 0)
	refuses(t, "a\xc3\xa9", 1)
	refuses(t, "\xef\xbb\xbfa", 0)
	refuses(t, "a\xc2\xa0b", 1)
	refuses(t, "a\xe2\x80\xa8b", 1)
	refuses(t, "\uff11", 0)
	refuses(t, "a\vb", 1)
	refuses(t, "a\fb", 1)
	refuses(t, "a\x00", 1)
}

// P3.1: sources have at most MaxSource bytes; longer ones are not read at all.
func TestLexLimit(t *testing.T) {
	for _, piece := range []string{" ", ";", "a ", "0 ", "//\n;", "/", "$", "a"} {
		full := strings.Repeat(piece, api.MaxSource)[:api.MaxSource]
		for _, src := range []string{full + " ", full + ";", full + "$", full + full} {
			if l, at, e := Lex(src); e != api.ErrLimit || at != 0 || len(l) != 0 {
				t.Errorf("%q: %d bytes: %d tokens, %d %d", piece, len(src), len(l), at, e)
			}
		}
	}
	for _, x := range []struct {
		piece       string
		size, count int
	}{{" ", 1, 0}, {";", 1, api.MaxSource}, {"a ", 2, api.MaxSource / 2}, {"0 ", 2, api.MaxSource / 2}, {"//\n;", 4, api.MaxSource / 4}} {
		l, at, e := Lex(strings.Repeat(x.piece, api.MaxSource/x.size))
		if e != api.OK || at != 0 || len(l) != x.count {
			t.Errorf("%q: %d tokens, %d %d", x.piece, len(l), at, e)
		}
	}
	accepts(t, strings.Repeat(" ", api.MaxSource-1)+"a", name("a", api.MaxSource-1))
	accepts(t, strings.Repeat("/", api.MaxSource))
	refuses(t, strings.Repeat(" ", api.MaxSource-1)+"$", api.MaxSource-1)
	refuses(t, strings.Repeat("1", api.MaxSource), 0)
	refuses(t, strings.Repeat("0", api.MaxSource), 0)
	refuses(t, strings.Repeat("a", api.MaxSource), 0)
}

var (
	skipped   = regexp.MustCompile(`^([ \t\r\n]|//[^\n]*)+`)
	candidate = regexp.MustCompile(`^([A-Za-z][A-Za-z0-9_]*|[0-9]+|[{}();,=:.<>!+*/-])`)
	rightName = regexp.MustCompile(`^[A-Za-z][A-Za-z0-9_]{0,31}$`)
	rightNum  = regexp.MustCompile(`^(0|[1-9][0-9]{0,12})$`)
)

// expectLex is Lex in another way: by regular expressions.
func expectLex(src string) (l []api.Token, wrong int, ok bool) {
	for at := 0; ; {
		at += len(skipped.FindString(src[at:]))
		if at == len(src) {
			return l, 0, true
		}
		s := candidate.FindString(src[at:])
		switch {
		case rightName.MatchString(s):
			l = append(l, name(s, at))
		case rightNum.MatchString(s) && (len(s) < 13 || s <= "1099511627776"):
			n := 0
			for _, d := range s {
				n = 10*n + int(d-'0')
			}
			l = append(l, num(n, at))
		case s != "" && strings.Contains(signs, s):
			l = append(l, sig(s, at))
		default:
			return nil, at, false
		}
		at += len(s)
	}
}

// agrees checks that Lex finds in a source what is expected.
func agrees(t *testing.T, src string) {
	t.Helper()
	if want, wrong, ok := expectLex(src); ok {
		accepts(t, src, want...)
	} else {
		refuses(t, src, wrong)
	}
}

// eachString calls do with all strings of at most the given length whose bytes are of the given ones.
func eachString(length int, of string, do func(s string)) {
	do("")
	if length == 0 {
		return
	}
	for i := range len(of) {
		eachString(length-1, of, func(s string) { do(of[i:i+1] + s) })
	}
}

// P3.1: all short sources of bytes of each class.
func TestLexShort(t *testing.T) {
	eachString(6, "a_01/ \n$", func(src string) { agrees(t, src) })
	eachString(4, "aZ_09;/*\t\r\n \x80\x00\xff", func(src string) { agrees(t, src) })
}

// FuzzLex: Lex agrees with the regular expressions, and what it returns with P3.3.
func FuzzLex(f *testing.F) {
	for _, src := range []string{"", "sum 30;", "007", "1099511627776", "1099511627777", "a // b", "a $", "a=1", "/ //\n/", strings.Repeat("x", 33)} {
		f.Add(src)
	}
	f.Fuzz(func(t *testing.T, src string) {
		if len(src) > api.MaxSource {
			return
		}
		agrees(t, src)
		consequences(t, src)
	})
}

// P3.2: Text writes tokens with one space between two; their places do not matter.
func TestText(t *testing.T) {
	long := strings.Repeat("x", api.MaxName)
	for _, x := range []struct {
		want string
		l    []api.Token
	}{
		{"", nil},
		{"", []api.Token{}},
		{"a", []api.Token{name("a", -7)}},
		{"0", []api.Token{num(0, math.MinInt)}},
		{"10", []api.Token{num(10, math.MaxInt)}},
		{"1099511627776", []api.Token{num(1<<40, 0)}},
		{"1099511627775 " + long, []api.Token{num(1<<40-1, 5), name(long, 5)}},
		{"a = 1", []api.Token{name("a", 2), sig("=", 1), num(1, 0)}},
		{"/ /", []api.Token{sig("/", 0), sig("/", 1)}},
		{"1 2 a b 3", []api.Token{num(1, 0), num(2, 0), name("a", 0), name("b", 0), num(3, 0)}},
		{"- 5", []api.Token{sig("-", 0), num(5, 0)}},
	} {
		if s, e := Text(x.l); e != api.OK || s != x.want {
			t.Errorf("%v: %q %d", x.l, s, e)
		}
	}
	for i := range len(signs) {
		s := signs[i : i+1]
		if got, e := Text([]api.Token{sig(s, i)}); e != api.OK || got != s {
			t.Errorf("%q: %q %d", s, got, e)
		}
	}
}

// P3.2: a text may be longer than a source.
func TestTextLong(t *testing.T) {
	long := strings.Repeat("x", api.MaxName)
	l := slices.Repeat([]api.Token{name(long, 0)}, api.MaxSource)
	want := strings.Repeat(long+" ", api.MaxSource)
	if s, e := Text(l); e != api.OK || s != want[:len(want)-1] {
		t.Errorf("%d bytes, %d", len(s), e)
	}
}

// invalidTokens are wrong in one way each.
func invalidTokens() []api.Token {
	l := []api.Token{
		{}, {Text: "a"}, {N: 1}, {Text: ";"}, {At: 1},
		{Kind: 4, Text: "a"}, {Kind: -1, Text: "a"}, {Kind: 257, Text: "a"}, {Kind: 258, N: 1}, {Kind: 259, Text: ";"},
		{Kind: math.MinInt, Text: "a"}, {Kind: math.MaxInt, Text: "a"}, {Kind: 4, N: 1}, {Kind: 4, Text: ";"}, {Kind: 4},
		num(-1, 0), num(math.MinInt, 0), num(1<<40+1, 0), num(math.MaxInt, 0),
		{Kind: api.NumberT, Text: "1", N: 1}, {Kind: api.NumberT, Text: "a"}, {Kind: api.NumberT, Text: ";"}, {Kind: api.NumberT, Text: " "},
	}
	for _, s := range notNames() {
		l = append(l, name(s, 0))
	}
	for _, n := range []int{1, -1, math.MinInt, math.MaxInt} {
		l = append(l, api.Token{Kind: api.NameT, Text: "a", N: n}, api.Token{Kind: api.SignT, Text: ";", N: n})
	}
	for _, s := range []string{"", " ", "\n", "a", "0", "_", "#", "$", "\"", "'", "[", "]", "&", "|", "^", "%", "?", "@", "\\", "`", "~", "\x00", "\x7f", "\x80", "\xff", "//", ";;", "; ", " ;", "<=", "=:", "\u037e"} {
		l = append(l, sig(s, 0))
	}
	return l
}

// P3.2: Text refuses lists with a token that is not valid, wherever it is.
func TestTextErrors(t *testing.T) {
	for _, x := range invalidTokens() {
		for _, l := range [][]api.Token{{x}, {x, name("a", 0)}, {num(1, 0), x}, {sig(";", 0), x, name("a", 1)}, {x, x}} {
			if s, e := Text(l); e != api.ErrText || s != "" {
				t.Errorf("%v: %q %d", l, s, e)
			}
		}
	}
}

func notNames() []string {
	return []string{
		"", "_", "_a", "_12", "1", "1a", "0", " ", " a", "a ", "a b", "a\n", "a-", "-a", "a.b", "a;", "$", "a$", "a\x00", "\x00",
		"a@", "a[", "a`", "a{", "a/", "a:", "@a", "[a", "`a", "{a", "a^", "a'", "/", "//",
		"\x80", "a\x80", "\xffa", "é", "aé", "a\u0431", "\u0430", "a\u0661", "a\uff3f",
		strings.Repeat("x", api.MaxName+1), "x" + strings.Repeat("_", api.MaxName), strings.Repeat("x", 1000), strings.Repeat("x", api.MaxName) + " ",
	}
}

// P3.2: Name admits letters, followed by letters, digits and underscores.
func TestName(t *testing.T) {
	for _, s := range []string{"a", "z", "A", "Z", "B_12", "a_", "a__", "a0", "a9_Z", "sum", letters[:32], letters[20:], "x" + strings.Repeat("_", api.MaxName-1), strings.Repeat("x", api.MaxName)} {
		if !Name(s) {
			t.Errorf("%q is no name", s)
		}
	}
	for _, s := range notNames() {
		if Name(s) {
			t.Errorf("%q is a name", s)
		}
	}
	for i := range 256 {
		b := string([]byte{byte(i)})
		first, later := strings.Contains(letters, b), strings.Contains(letters+digits+"_", b)
		if Name(b) != first || Name(b+"a") != first || Name("a"+b) != later || Name("a"+b+"c") != later {
			t.Errorf("the byte %d", i)
		}
	}
	eachString(4, "aB_0/\xff", func(s string) {
		if Name(s) != rightName.MatchString(s) {
			t.Errorf("%q", s)
		}
	})
}

// P3.2: Same compares kinds, texts and numbers, not places, of all tokens.
func TestSame(t *testing.T) {
	different := [][]api.Token{nil}
	for _, x := range append(invalidTokens(), name("a", 0), name("b", 0), num(0, 0), num(1, 0), sig(";", 0), sig(",", 0), name("ab", 0)) {
		if x != (api.Token{At: 1}) {
			different = append(different, []api.Token{x})
		}
	}
	a, b := name("a", 0), name("b", 0)
	different = append(different, []api.Token{a, b}, []api.Token{b, a}, []api.Token{a, a}, []api.Token{a, a, a}, []api.Token{a, a, b}, []api.Token{{}, {}})
	for i, x := range different {
		for k, y := range different {
			moved := slices.Clone(y)
			for p := range moved {
				moved[p].At += 3*p - 1
			}
			if Same(x, y) != (i == k) || Same(x, moved) != (i == k) {
				t.Errorf("%v and %v: %t", x, y, Same(x, y))
			}
		}
	}
	if !Same(nil, []api.Token{}) || !Same([]api.Token{}, nil) || !Same(nil, nil) {
		t.Error("no tokens")
	}
}

// consequences checks what P3.3 promises of one source.
func consequences(t *testing.T, src string) {
	t.Helper()
	l, at, e := Lex(src)
	if e != api.OK {
		if before, place, e := Lex(src[:at]); e != api.OK || place != 0 || len(before) > at {
			t.Errorf("%.60q: before its error: %v %d %d", src, before, place, e)
		}
		return
	}
	text, e := Text(l)
	if e != api.OK {
		t.Errorf("%.60q: Text: %d", src, e)
	}
	if again, _, e := Lex(text); len(text) <= api.MaxSource && (e != api.OK || !Same(l, again)) {
		t.Errorf("%.60q: %v, but of its text %v %d", src, l, again, e)
	}
	last := -1
	for i, x := range l {
		s, _ := Text(l[i : i+1])
		if x.At <= last || !strings.HasPrefix(src[x.At:], s) {
			t.Errorf("%.60q: the token %d, %v, after %d", src, i, x, last)
		}
		last = x.At
	}
}

// joined checks what P3.3 promises of two sources with a line feed between them.
func joined(t *testing.T, a, b string) {
	t.Helper()
	first, wrong, e := Lex(a)
	if e != api.OK {
		refuses(t, a+"\n"+b, wrong)
		return
	}
	second, wrong, e := Lex(b)
	if e != api.OK {
		refuses(t, a+"\n"+b, len(a)+1+wrong)
		return
	}
	for i := range second {
		second[i].At += len(a) + 1
	}
	accepts(t, a+"\n"+b, slices.Concat(first, second)...)
}

// P3.3: the consequences, of all short sources and of some longer ones.
func TestConsequences(t *testing.T) {
	eachString(5, "a_01/ \n$", func(src string) { consequences(t, src) })
	long := strings.Repeat("x", api.MaxName)
	longer := []string{
		"sum 30;", " ab // c\n 17;", "policy p { a=1099511627776; } // end", long + "+" + long, long + "x", "1 2 3 004", "a\r\nb\r\n", "x//y\xff\n//z",
		strings.Repeat("a;", api.MaxSource/4), strings.Repeat(";", api.MaxSource/2), strings.Repeat("1 ", api.MaxSource/2), strings.Repeat(";", api.MaxSource/2+1), strings.Repeat(";", api.MaxSource-1) + "$",
	}
	for _, src := range longer {
		consequences(t, src)
	}
	for _, a := range longer[:8] {
		for _, b := range longer[:8] {
			joined(t, a, b)
		}
	}
	eachString(3, "a1/ \n$", func(a string) {
		eachString(3, "a0/ \n$", func(b string) { joined(t, a, b) })
	})
}

// P3.3: white space and comments have no tokens: they change nothing between
// two tokens but the places.
func TestSkipped(t *testing.T) {
	want, _, _ := Lex("a = 12 ; b / c")
	for _, gap := range []string{" ", "\t", "\r", "\n", "  ", " \r\n\t", "//\n", " // $ 007 \xff\n", "//a\n//b\n", "\n\n\n"} {
		src := gap + strings.ReplaceAll("a = 12 ; b / c", " ", gap) + gap
		if gap[0] == '/' {
			src = strings.ReplaceAll(src, "/"+gap, "/ "+gap)
		}
		if l, _, e := Lex(src); e != api.OK || !Same(l, want) {
			t.Errorf("%q: %v %d", src, l, e)
		}
	}
}

// R2, R6: no call changes its arguments, or what another call has returned.
func TestPure(t *testing.T) {
	src := "sum 30; // a\n b"
	l, _, _ := Lex(src)
	kept := slices.Clone(l)
	again, _, _ := Lex(src)
	for range 2 {
		Text(l)
		Text(append(l[:1:1], api.Token{}))
		Same(l, again[1:])
		Lex("b c d e f")
	}
	if !slices.Equal(l, kept) || !slices.Equal(again, kept) {
		t.Error("the tokens have changed")
	}
	again[0] = api.Token{}
	if third, _, _ := Lex(src); !slices.Equal(l, kept) || !slices.Equal(third, kept) {
		t.Error("two results share memory")
	}
}
