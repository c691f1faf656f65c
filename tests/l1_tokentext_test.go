package tests

import (
	"math"
	"strings"
	"testing"

	"loop.example/s02542/impl"
)

func wantTokenText(t *testing.T, token impl.Token, want string) {
	t.Helper()
	for _, at := range []int{token.At, 0, 7, -1, math.MaxInt, math.MinInt} {
		token.At = at
		if got := impl.TokenText(token); got != want {
			t.Errorf("TokenText(%#v) = %q; want %q", token, got, want)
		}
	}
	if want != "" {
		token.At = 0
		wantTokens(t, want, token)
	}
}

func TestTokenTextOfNumbers(t *testing.T) {
	for n, want := range map[int]string{
		0: "0", 7: "7", -7: "¯7", 120: "120", -120: "¯120",
		impl.MaxInt: "1000000000000000", -impl.MaxInt: "¯1000000000000000",
		impl.MaxInt + 1: "", -impl.MaxInt - 1: "", math.MaxInt: "", math.MinInt: "",
	} {
		wantTokenText(t, num(n, 0), want)
		wantTokenText(t, impl.Token{Kind: impl.TokNum, N: n, S: "1"}, "")
	}
}

func TestTokenTextOfTexts(t *testing.T) {
	for s, want := range map[string]string{
		"": "''", "a": "'a'", "'": "''''", "it's": "'it''s'", "''": "''''''", "⍝ c": "'⍝ c'", "¯1 ←x": "'¯1 ←x'", " \t\r\x00": "' \t\r\x00'",
		"\uFFFD": "'\uFFFD'", "\U0010FFFF": "'\U0010FFFF'", "\n": "", "a\nb": "", "\xff": "", "a\xe2\x8d": "", "\xed\xa0\x80": "", "\xc0\x80": "",
	} {
		wantTokenText(t, text(s, 0), want)
		wantTokenText(t, impl.Token{Kind: impl.TokText, S: s, N: 1}, "")
	}
}

func TestTokenTextNoLongerThanALine(t *testing.T) {
	full := strings.Repeat("a", impl.MaxLine-2)
	wantTokenText(t, text(full, 0), "'"+full+"'")
	wantTokenText(t, text(full+"a", 0), "")
	wantTokenText(t, text(full[1:]+"'", 0), "")
	wantTokenText(t, text(full[2:]+"'", 0), "'"+full[2:]+"'''")
	wantTokenText(t, text(strings.Repeat("'", impl.MaxLine/2-1), 0), strings.Repeat("'", impl.MaxLine))
	wantTokenText(t, text(strings.Repeat("'", impl.MaxLine/2), 0), "")
	wantTokenText(t, text(strings.Repeat("a", 100*impl.MaxLine), 0), "")
}

func TestTokenTextOfNames(t *testing.T) {
	full := strings.Repeat("aB3z", impl.MaxName/4)
	for _, s := range []string{"a", "Z", "a1", "Ab9", full} {
		wantTokenText(t, name(s, 0), s)
		wantTokenText(t, impl.Token{Kind: impl.TokName, S: s, N: -1}, "")
		wantTokenText(t, sign(s, 0), "")
		wantTokenText(t, impl.Token{Kind: impl.TokNum, S: s}, "")
	}
	for _, s := range []string{full + "a", "", "1", "1a", "a b", " a", "a ", "a\t", "a⍝", "a⍝b", "a+", "+", "é", "aé", "a_", "¯1", "'a'", "a\n", "a\xff", strings.Repeat("a", 3*impl.MaxLine)} {
		wantTokenText(t, name(s, 0), "")
	}
}

func TestTokenTextOfSigns(t *testing.T) {
	for _, r := range signPoints {
		s := string(r)
		wantTokenText(t, sign(s, 0), s)
		wantTokenText(t, impl.Token{Kind: impl.TokSign, S: s, N: 1}, "")
		wantTokenText(t, sign(s+s, 0), "")
		wantTokenText(t, sign(s+" ", 0), "")
		wantTokenText(t, sign(" "+s, 0), "")
		wantTokenText(t, sign(s+"⍝", 0), "")
		wantTokenText(t, sign(s+"\xff", 0), "")
		wantTokenText(t, name(s, 0), "")
	}
	for _, s := range []string{"", " ", "\n", "⍝", "¯", "'", "''", "1", "a", "@", "\"", "_", "◊", "∈", "\uFFFD", "\xff", "\xe2\x8d"} {
		wantTokenText(t, sign(s, 0), "")
	}
}

func TestTokenTextOfOtherKinds(t *testing.T) {
	for _, kind := range []int{0, -1, 5, 100, math.MaxInt, math.MinInt} {
		for _, s := range []string{"", "a", "+", "'a'", "1"} {
			wantTokenText(t, impl.Token{Kind: kind, S: s}, "")
			wantTokenText(t, impl.Token{Kind: kind, S: s, N: 1}, "")
		}
	}
}
