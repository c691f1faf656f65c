package tests

import (
	"strings"
	"testing"

	"loop.example/s02542/impl"
)

// signPoints are the characters that are signs, by their numbers: many of them have look-alikes.
var signPoints = []rune{
	0x2B, 0x2D, 0xD7, 0xF7, 0x230A, 0x2308, 0x7C, 0x2A, 0x3D, 0x2260, 0x3C, 0x2264, 0x2265, 0x3E, 0x2227, 0x2228, 0x7E,
	0x2374, 0x2373, 0x2C, 0x233D, 0x2296, 0x2349, 0x2191, 0x2193, 0x234B, 0x2352, 0x220A, 0x2F, 0x233F, 0x5C, 0x2340,
	0x2E, 0x2218, 0x22A5, 0x22A4, 0x2262, 0x2190, 0x5B, 0x5D, 0x3B, 0x28, 0x29, 0x7B, 0x7D, 0x237A, 0x2375, 0x2207,
	0x3A, 0x22C4, 0x236C,
}

// badBytes begin no character, or one that is not in its shortest form or not allowed.
var badBytes = []string{
	"\x80", "\xbf", "\xc0", "\xc1", "\xf5", "\xfe", "\xff",
	"\xc2", "\xe2", "\xe2\x8d", "\xf0\x9f", "\xf0\x9f\x98", // cut off
	"\xc2\x20", "\xe2\x28\xa1", "\xf0\x9f\x28\x80", // no byte that goes on
	"\xc0\x80", "\xc0\xa0", "\xc1\x81", "\xc0\xa7", "\xc1\xbf", // two bytes for one
	"\xe0\x80\x80", "\xe0\x80\xab", "\xe0\x82\xaf", "\xe0\x9f\xbf", // three bytes for one or two
	"\xf0\x80\x80\xab", "\xf0\x82\x8d\xb4", "\xf0\x8f\xbf\xbf", // four bytes for up to three
	"\xed\xa0\x80", "\xed\xad\xbf", "\xed\xae\x80", "\xed\xbf\xbf", // 0xD800 to 0xDFFF
	"\xf4\x90\x80\x80", "\xf5\x80\x80\x80", "\xf7\xbf\xbf\xbf", // above 0x10FFFF
	"\xf8\x88\x80\x80\x80", "\xfc\x84\x80\x80\x80\x80",
}

func num(n, at int) impl.Token {
	return impl.Token{Kind: impl.TokNum, N: n, At: at}
}

func text(s string, at int) impl.Token {
	return impl.Token{Kind: impl.TokText, S: s, At: at}
}

func name(s string, at int) impl.Token {
	return impl.Token{Kind: impl.TokName, S: s, At: at}
}

func sign(s string, at int) impl.Token {
	return impl.Token{Kind: impl.TokSign, S: s, At: at}
}

func sameTokens(a, b []impl.Token) bool {
	if len(a) != len(b) {
		return false
	}
	for i := range a {
		if a[i] != b[i] {
			return false
		}
	}
	return true
}

func wantTokens(t *testing.T, line string, want ...impl.Token) {
	t.Helper()
	got, code, at := impl.Lex([]byte(line))
	if code != 0 || at != 0 || !sameTokens(got, want) {
		t.Errorf("Lex(%q) = %#v, %d, %d; want %#v, 0, 0", line, got, code, at, want)
	}
}

func wantFault(t *testing.T, line string, code, at int) {
	t.Helper()
	gotTokens, gotCode, gotAt := impl.Lex([]byte(line))
	if len(gotTokens) != 0 || gotCode != code || gotAt != at {
		t.Errorf("Lex(%q) = %#v, %d, %d; want no tokens, %d, %d", line, gotTokens, gotCode, gotAt, code, at)
	}
}

func TestLexOrdinaryLines(t *testing.T) {
	wantTokens(t, "x←1 2 3", name("x", 0), sign("←", 1), num(1, 4), num(2, 6), num(3, 8))
	wantTokens(t, "+/⍳10", sign("+", 0), sign("/", 1), sign("⍳", 2), num(10, 5))
	wantTokens(t, "F←{⍵≤1:1⋄⍵×∇⍵-1}",
		name("F", 0), sign("←", 1), sign("{", 4), sign("⍵", 5), sign("≤", 8), num(1, 11), sign(":", 12), num(1, 13),
		sign("⋄", 14), sign("⍵", 17), sign("×", 20), sign("∇", 22), sign("⍵", 25), sign("-", 28), num(1, 29), sign("}", 30))
	wantTokens(t, "m[1;]←'ab'", name("m", 0), sign("[", 1), num(1, 2), sign(";", 3), sign("]", 4), sign("←", 5), text("ab", 8))
	wantTokens(t, "a∘.×b", name("a", 0), sign("∘", 1), sign(".", 4), sign("×", 5), name("b", 7))
	wantTokens(t, "12.5", num(12, 0), sign(".", 2), num(5, 3))
	wantTokens(t, "x-1", name("x", 0), sign("-", 1), num(1, 2))
	wantTokens(t, "x¯1", name("x", 0), num(-1, 1))
	wantTokens(t, "1'a'+x3", num(1, 0), text("a", 1), sign("+", 4), name("x3", 5))
}

func TestLexBlanks(t *testing.T) {
	wantTokens(t, "")
	wantTokens(t, " \t \t")
	wantTokens(t, "\t 1 \t+\t", num(1, 2), sign("+", 5))
	wantTokens(t, "a b", name("a", 0), name("b", 2))
	wantTokens(t, "1\t2", num(1, 0), num(2, 2))
	for _, other := range []string{"\n", "\r", "\v", "\f", "\x00", "\u00a0", "\u2003", "\u3000", "\ufeff"} {
		wantFault(t, "1 "+other, impl.ErrSyntax, 2)
	}
	got, code, at := impl.Lex(nil)
	if len(got) != 0 || code != 0 || at != 0 {
		t.Errorf("Lex(nil) = %#v, %d, %d", got, code, at)
	}
}

func TestLexNumbers(t *testing.T) {
	wantTokens(t, "0", num(0, 0))
	wantTokens(t, "¯0", num(0, 0))
	wantTokens(t, "007", num(7, 0))
	wantTokens(t, "¯12 ¯3", num(-12, 0), num(-3, 5))
	wantTokens(t, "1000000000000000", num(impl.MaxInt, 0))
	wantTokens(t, "¯1000000000000000", num(-impl.MaxInt, 0))
	wantTokens(t, strings.Repeat("0", 100)+"1000000000000000", num(impl.MaxInt, 0))
	wantTokens(t, strings.Repeat("0", impl.MaxLine), num(0, 0))
	tooGreat := []string{
		"1000000000000001", "9999999999999999", "9223372036854775807", "9223372036854775808", "18446744073709551617",
		strings.Repeat("0", 100) + "1000000000000001", strings.Repeat("9", 500), "1" + strings.Repeat("0", 1900),
	}
	for _, digits := range tooGreat {
		wantFault(t, digits, impl.ErrLimit, 0)
		wantFault(t, "¯"+digits, impl.ErrLimit, 0)
		wantFault(t, "x← "+digits+" +", impl.ErrLimit, 5)
		wantFault(t, digits+"a", impl.ErrSyntax, 0)
		wantFault(t, digits+"¯", impl.ErrSyntax, 0)
		wantFault(t, "+¯"+digits+"Z9", impl.ErrSyntax, 1)
	}
}

func TestLexNumbersOutOfForm(t *testing.T) {
	for _, wrong := range []string{"¯", "¯¯1", "¯ 1", "¯a", "¯'1'", "¯-1", "¯⍝", "¯\xff", "1a", "1A", "1z", "1Z", "1e5", "1¯", "1¯2", "¯1a", "¯1¯", "12x\xff"} {
		wantFault(t, wrong, impl.ErrSyntax, 0)
		wantFault(t, "1 "+wrong, impl.ErrSyntax, 2)
		wantFault(t, "⍴"+wrong, impl.ErrSyntax, 3)
	}
	wantFault(t, "1_", impl.ErrSyntax, 1)
	wantFault(t, "1é", impl.ErrSyntax, 1)
	wantFault(t, "1\xe0\x82\xaf", impl.ErrSyntax, 1)
	wantFault(t, "1\xc1\x81", impl.ErrSyntax, 1)
	wantFault(t, "\u0663", impl.ErrSyntax, 0)
	wantFault(t, "1\u0663", impl.ErrSyntax, 1)
	wantFault(t, "¯\u0663", impl.ErrSyntax, 0)
}

func TestLexTexts(t *testing.T) {
	wantTokens(t, "''", text("", 0))
	wantTokens(t, "''''", text("'", 0))
	wantTokens(t, "''''''", text("''", 0))
	wantTokens(t, "'it''s'", text("it's", 0))
	wantTokens(t, "'a''''b'", text("a''b", 0))
	wantTokens(t, "'' ''", text("", 0), text("", 3))
	wantTokens(t, "'a' 'b'", text("a", 0), text("b", 4))
	wantTokens(t, "'a'b", text("a", 0), name("b", 3))
	wantTokens(t, "'1 + x ← ¯ \t \r \x00'", text("1 + x ← ¯ \t \r \x00", 0))
	wantTokens(t, "'\uFFFD\uFFFE\uFFFF\U0010FFFF\uD7FF\uE000'", text("\uFFFD\uFFFE\uFFFF\U0010FFFF\uD7FF\uE000", 0))
	wantTokens(t, "'"+strings.Repeat("a", impl.MaxLine-2)+"'", text(strings.Repeat("a", impl.MaxLine-2), 0))
	for _, wrong := range []string{"'", "'ab", "'''", "'''''", "'ab''", "'a ⍝ b", "'\n'", "'a\nb'", "'a\n", "'a''\nb'", "'ab\n", "'é\n'", "'ab\xff"} {
		wantFault(t, wrong, impl.ErrSyntax, 0)
		wantFault(t, "x ←"+wrong, impl.ErrSyntax, 5)
		wantFault(t, "'b'+ "+wrong, impl.ErrSyntax, 5)
	}
	wantFault(t, "'a'b'", impl.ErrSyntax, 4)
}

func TestLexNames(t *testing.T) {
	wantTokens(t, "A Z a z", name("A", 0), name("Z", 2), name("a", 4), name("z", 6))
	wantTokens(t, "aZ09zA", name("aZ09zA", 0))
	for _, letter := range []string{"a", "Z"} {
		full := letter + strings.Repeat("x9", impl.MaxName/2-1) + "y"
		wantTokens(t, full, name(full, 0))
		wantTokens(t, full+" "+full, name(full, 0), name(full, impl.MaxName+1))
		wantTokens(t, full+"¯1", name(full, 0), num(-1, impl.MaxName))
		wantFault(t, full+"y", impl.ErrSyntax, 0)
		wantFault(t, full+"1", impl.ErrSyntax, 0)
		wantFault(t, "⍴ "+full+"yyy", impl.ErrSyntax, 4)
		wantFault(t, full+"y\xff", impl.ErrSyntax, 0)
		wantFault(t, full+"\xff", impl.ErrSyntax, impl.MaxName)
	}
	for _, wrong := range []string{"a_b", "aé", "a\u0661", "a\u0391", "a@", "a\"", "a\xff"} {
		wantFault(t, wrong, impl.ErrSyntax, 1)
	}
}

func TestLexComments(t *testing.T) {
	wantTokens(t, "⍝")
	wantTokens(t, " \t⍝ x")
	wantTokens(t, "1⍝2", num(1, 0))
	wantTokens(t, "x⍝", name("x", 0))
	wantTokens(t, "+⍝'not ended", sign("+", 0))
	wantTokens(t, "'a'⍝'", text("a", 0))
	wantTokens(t, "1 ⍝ @ \n 3a ¯ 9999999999999999 \x00 ⍝ "+strings.Repeat("a", 50), num(1, 0))
	wantTokens(t, "'a⍝b' ⍝ 'c'", text("a⍝b", 0))
	wantTokens(t, "'⍝'+1", text("⍝", 0), sign("+", 5), num(1, 6))
	for _, bad := range badBytes {
		wantTokens(t, "1⍝"+bad, num(1, 0))
		wantTokens(t, "⍝ "+bad+" ' "+bad)
	}
	wantFault(t, "@⍝", impl.ErrSyntax, 0)
	wantFault(t, "\xe2\x8d", impl.ErrSyntax, 0)
}

func TestLexLineLimit(t *testing.T) {
	wantTokens(t, strings.Repeat(" ", impl.MaxLine))
	wantTokens(t, "⍝"+strings.Repeat("\xff", impl.MaxLine-3))
	plus := strings.Repeat("+", impl.MaxLine)
	got, code, at := impl.Lex([]byte(plus))
	if code != 0 || at != 0 || len(got) != impl.MaxLine || got[impl.MaxLine-1] != sign("+", impl.MaxLine-1) {
		t.Errorf("%d signs: %d tokens, %d, %d", impl.MaxLine, len(got), code, at)
	}
	wantFault(t, strings.Repeat(" ", impl.MaxLine-1)+"@", impl.ErrSyntax, impl.MaxLine-1)
	for _, long := range []string{
		strings.Repeat(" ", impl.MaxLine+1), plus + "+", "@" + plus, "3a" + plus, "\xff" + plus,
		"'" + plus, "⍝" + plus, strings.Repeat("\xff", 3*impl.MaxLine), strings.Repeat("⍴", impl.MaxLine/3+1),
	} {
		wantFault(t, long, impl.ErrLimit, 0)
	}
}

func TestLexEachSign(t *testing.T) {
	if len(signPoints) != 51 {
		t.Fatalf("%d signs", len(signPoints))
	}
	for _, r := range signPoints {
		s := string(r)
		wantTokens(t, s, sign(s, 0))
		wantTokens(t, "1"+s+s+"a", num(1, 0), sign(s, 1), sign(s, 1+len(s)), name("a", 1+2*len(s)))
	}
}

func TestLexEveryCharacter(t *testing.T) {
	isSign := map[rune]int{}
	for _, r := range signPoints {
		isSign[r] = 1
	}
	for r := rune(0); r <= 0x10FFFF; r++ {
		if 0xD800 <= r && r <= 0xDFFF {
			continue
		}
		s := string(r)
		switch {
		case isSign[r] == 1:
			wantTokens(t, s, sign(s, 0))
		case '0' <= r && r <= '9':
			wantTokens(t, s, num(int(r-'0'), 0))
		case 'A' <= r && r <= 'Z', 'a' <= r && r <= 'z':
			wantTokens(t, s, name(s, 0))
		case r == ' ', r == '\t', r == 0x235D:
			wantTokens(t, s)
		default:
			wantFault(t, s, impl.ErrSyntax, 0)
		}
		if r == '\'' || r == '\n' {
			wantFault(t, "'"+s+"'", impl.ErrSyntax, 0)
		} else {
			wantTokens(t, "'"+s+"'", text(s, 0))
		}
	}
}

func TestLexBadBytes(t *testing.T) {
	for _, bad := range badBytes {
		wantFault(t, bad, impl.ErrSyntax, 0)
		wantFault(t, "x← "+bad+"+1", impl.ErrSyntax, 5)
		wantFault(t, "12"+bad, impl.ErrSyntax, 2)
		wantFault(t, "ab"+bad, impl.ErrSyntax, 2)
		wantFault(t, "≢"+bad+"@", impl.ErrSyntax, 3)
		wantFault(t, "'a'"+bad, impl.ErrSyntax, 3)
		wantFault(t, " 'a"+bad+"b'", impl.ErrSyntax, 1)
		wantFault(t, " 'a''"+bad, impl.ErrSyntax, 1)
		wantFault(t, bad+"⍝", impl.ErrSyntax, 0)
	}
}

func TestLexFirstFaultCounts(t *testing.T) {
	wantFault(t, "1 @ 9999999999999999", impl.ErrSyntax, 2)
	wantFault(t, "9999999999999999 @", impl.ErrLimit, 0)
	wantFault(t, "9999999999999999@", impl.ErrLimit, 0)
	wantFault(t, "9999999999999999\xff", impl.ErrLimit, 0)
	wantFault(t, "9999999999999999'", impl.ErrLimit, 0)
	wantFault(t, "'ab' 9999999999999999 'ab", impl.ErrLimit, 5)
	wantFault(t, "'ab 9999999999999999", impl.ErrSyntax, 0)
	wantFault(t, "3a \xff", impl.ErrSyntax, 0)
	wantFault(t, "\xff 3a", impl.ErrSyntax, 0)
	wantFault(t, "1 + ⍝ 9999999999999999"+strings.Repeat(" ", impl.MaxLine), impl.ErrLimit, 0)
}

func TestLexLeavesItsArgumentAlone(t *testing.T) {
	line := []byte("abc←'it''s'+12 ⍝ c")
	before := string(line)
	first, _, _ := impl.Lex(line)
	if string(line) != before {
		t.Fatalf("the line became %q", line)
	}
	for i := range line {
		line[i] = '@'
	}
	second, _, _ := impl.Lex([]byte(before))
	if !sameTokens(first, second) {
		t.Errorf("tokens hang on the line behind the call: %#v, %#v", first, second)
	}
	first[0].S = "other"
	third, _, _ := impl.Lex([]byte(before))
	if !sameTokens(second, third) {
		t.Errorf("tokens hang on those of an earlier call: %#v, %#v", second, third)
	}
}
