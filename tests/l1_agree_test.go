package tests

import (
	"math/rand/v2"
	"strings"
	"testing"

	"loop.example/s02542/impl"
)

// character is one character of a line; r is -1 at a byte at which none begins.
type character struct {
	r, at, width int
}

// charactersOf reads UTF-8 by its bits, so that the program's way to read it is not taken on trust.
func charactersOf(line []byte) []character {
	var out []character
	for at := 0; at < len(line); {
		c := characterAt(line, at)
		out = append(out, c)
		at += c.width
	}
	return out
}

func characterAt(line []byte, at int) character {
	b := int(line[at])
	bad := character{-1, at, 1}
	width, r, least := 1, b, 0
	switch {
	case b < 0x80:
	case b>>5 == 6:
		width, r, least = 2, b&31, 0x80
	case b>>4 == 14:
		width, r, least = 3, b&15, 0x800
	case b>>3 == 30:
		width, r, least = 4, b&7, 0x10000
	default:
		return bad
	}
	if at+width > len(line) {
		return bad
	}
	for _, more := range line[at+1 : at+width] {
		if more>>6 != 2 {
			return bad
		}
		r = r<<6 | int(more&63)
	}
	if r < least || r > 0x10FFFF || r>>11 == 0xD800>>11 {
		return bad
	}
	return character{r, at, width}
}

// reader goes through a line as the document tells it, one character after the other.
type reader struct {
	cs []character
	i  int
}

func (l *reader) peek(k int) int {
	if l.i+k >= len(l.cs) {
		return -2
	}
	return l.cs[l.i+k].r
}

func isNumeral(r int) bool { return '0' <= r && r <= '9' }
func isAlpha(r int) bool   { return 'A' <= r && r <= 'Z' || 'a' <= r && r <= 'z' }

func (l *reader) number() (impl.Token, int) {
	below := l.peek(0) == '¯'
	if below {
		l.i++
	}
	n, count := 0, 0
	for ; isNumeral(l.peek(0)); l.i++ {
		count++
		if n <= impl.MaxInt {
			n = 10*n + l.peek(0) - '0'
		}
	}
	if count == 0 || isAlpha(l.peek(0)) || l.peek(0) == '¯' {
		return impl.Token{}, impl.ErrSyntax
	}
	if n > impl.MaxInt {
		return impl.Token{}, impl.ErrLimit
	}
	if below {
		n = -n
	}
	return impl.Token{Kind: impl.TokNum, N: n}, 0
}

func (l *reader) text() (impl.Token, int) {
	var s []rune
	for l.i++; ; l.i++ {
		switch r := l.peek(0); {
		case r < 0, r == '\n':
			return impl.Token{}, impl.ErrSyntax
		case r != '\'':
			s = append(s, rune(r))
		case l.peek(1) == '\'':
			s = append(s, '\'')
			l.i++
		default:
			l.i++
			return impl.Token{Kind: impl.TokText, S: string(s)}, 0
		}
	}
}

func (l *reader) token() (impl.Token, int) {
	r := l.peek(0)
	switch {
	case isNumeral(r), r == '¯':
		return l.number()
	case r == '\'':
		return l.text()
	case isAlpha(r):
		s := ""
		for ; isAlpha(l.peek(0)) || isNumeral(l.peek(0)); l.i++ {
			s += string(rune(l.peek(0)))
		}
		if len(s) > impl.MaxName {
			return impl.Token{}, impl.ErrSyntax
		}
		return impl.Token{Kind: impl.TokName, S: s}, 0
	}
	for _, p := range signPoints {
		if r == int(p) {
			l.i++
			return impl.Token{Kind: impl.TokSign, S: string(p)}, 0
		}
	}
	return impl.Token{}, impl.ErrSyntax
}

// lexAgain is a second Lex, written apart from the program's.
func lexAgain(line []byte) ([]impl.Token, int, int) {
	if len(line) > impl.MaxLine {
		return nil, impl.ErrLimit, 0
	}
	l := &reader{cs: charactersOf(line)}
	var out []impl.Token
	for l.i < len(l.cs) && l.peek(0) != '⍝' {
		if l.peek(0) == ' ' || l.peek(0) == '\t' {
			l.i++
			continue
		}
		at := l.cs[l.i].at
		token, code := l.token()
		if code != 0 {
			return nil, code, at
		}
		token.At = at
		out = append(out, token)
	}
	return out, 0, 0
}

// readAgain joins the texts of tokens by blanks, and reads them.
func readAgain(tokens []impl.Token) ([]impl.Token, int) {
	var texts []string
	for _, token := range tokens {
		texts = append(texts, impl.TokenText(token))
	}
	back, code, _ := impl.Lex([]byte(strings.Join(texts, " ")))
	return withoutPlaces(back), code
}

func withoutPlaces(tokens []impl.Token) []impl.Token {
	var out []impl.Token
	for _, token := range tokens {
		token.At = 0
		out = append(out, token)
	}
	return out
}

func checkLine(t *testing.T, line []byte) {
	t.Helper()
	got, code, at := impl.Lex(line)
	want, wantCode, wantAt := lexAgain(line)
	if !sameTokens(got, want) || code != wantCode || at != wantAt {
		t.Fatalf("Lex(%q) = %#v, %d, %d; want %#v, %d, %d", line, got, code, at, want, wantCode, wantAt)
	}
	for _, token := range got {
		back, code, at := impl.Lex([]byte(impl.TokenText(token)))
		token.At = 0
		if code != 0 || at != 0 || !sameTokens(back, []impl.Token{token}) {
			t.Fatalf("%q: %#v has the text %q, read as %#v, %d, %d", line, token, impl.TokenText(token), back, code, at)
		}
	}
	// The blanks make a line longer, up to twice as long.
	if len(line) <= impl.MaxLine/2 {
		back, code := readAgain(got)
		if code != 0 || !sameTokens(back, withoutPlaces(got)) {
			t.Fatalf("%q: %#v are read again as %#v, %d", line, got, back, code)
		}
	}
}

func TestLexAndTokenTextAgreeOnWrittenLines(t *testing.T) {
	for _, line := range []string{
		"", "x←1 2 3", "x←¯12 'it''s' ⍝ c\xff", "F←{⍵≤1:1⋄⍵×∇⍵-1}", "m[1;]←'ab' ⋄ (2↑m)←0 ¯0 007", "a∘.×b⊥⍬", "'''' '' '⍝' ''''''",
		"¯1000000000000000 1000000000000000", "+/⌽⍉⍳¯5", "x¯1'a'b", "1000000000000001", "'a", "3a", "¯", strings.Repeat("'a' ", 250),
	} {
		checkLine(t, []byte(line))
	}
}

// linePieces are what lines are thrown together from: whole tokens, their beginnings, and wrong bytes.
func linePieces() []string {
	pieces := []string{
		"0", "7", "12", "¯", "¯3", "1000000000000000", "1000000000000001", "99999999999999999999", "a", "Z", "x1", "F", "aaaaaaaaaaaaaaaaaaa",
		"'", "''", "'a'", "'b''c'", "'⍝'", "\n", " ", "  ", "\t", "\r", "\x00", "@", "_", "\"", "é", "\u0663", "\uFFFD", "😀", "⍝", "◊",
	}
	for _, r := range signPoints {
		pieces = append(pieces, string(r))
	}
	return pieces
}

func TestLexAndTokenTextAgreeOnThrownLines(t *testing.T) {
	random := rand.New(rand.NewPCG(1, 2542))
	pieces := linePieces()
	for range 100000 {
		var line []byte
		for range random.IntN(12) {
			piece := pieces[random.IntN(len(pieces))]
			if random.IntN(40) == 0 {
				piece = badBytes[random.IntN(len(badBytes))]
			}
			line = append(line, piece...)
		}
		checkLine(t, line)
	}
}

func TestLexAndTokenTextAgreeOnAnyBytes(t *testing.T) {
	random := rand.New(rand.NewPCG(2, 2542))
	for range 50000 {
		line := make([]byte, random.IntN(10))
		for i := range line {
			line[i] = byte(random.IntN(256))
		}
		checkLine(t, line)
		checkLine(t, append(append([]byte("'"), line...), '\''))
	}
}

func TestTokenTextIsReadAsItsToken(t *testing.T) {
	random := rand.New(rand.NewPCG(3, 2542))
	pieces := append(linePieces(), badBytes...)
	for range 100000 {
		token := impl.Token{Kind: random.IntN(6), At: random.IntN(5)}
		for range random.IntN(3) {
			token.S += pieces[random.IntN(len(pieces))]
		}
		if random.IntN(4) == 0 {
			token.N = random.IntN(20) - 10
		}
		bare := token
		bare.At = 0
		got := impl.TokenText(token)
		if got != "" {
			back, code, _ := lexAgain([]byte(got))
			if code != 0 || !sameTokens(back, []impl.Token{bare}) {
				t.Fatalf("TokenText(%#v) = %q, which is %#v, %d", token, got, back, code)
			}
		} else if hasText(bare) {
			t.Fatalf("TokenText(%#v) is empty", token)
		}
	}
}

// hasText says whether a line stands for a token, by trying the one way in which each kind is written.
func hasText(token impl.Token) bool {
	line := token.S
	switch token.Kind {
	case impl.TokNum:
		return token.S == "" && -impl.MaxInt <= token.N && token.N <= impl.MaxInt
	case impl.TokText:
		line = "'" + strings.Join(strings.Split(token.S, "'"), "''") + "'"
	}
	back, code, _ := lexAgain([]byte(line))
	return code == 0 && sameTokens(back, []impl.Token{token})
}

func FuzzLex(f *testing.F) {
	for _, line := range []string{"", "x←¯12 'it''s' ⍝ c\xff", "F←{⍵≤1:1⋄⍵×∇⍵-1}", "1000000000000001", "'a\n", "\xe0\x82\xaf"} {
		f.Add([]byte(line))
	}
	f.Fuzz(func(t *testing.T, line []byte) {
		checkLine(t, line)
	})
}
