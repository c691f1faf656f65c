package impl

import (
	"strconv"
	"strings"
	"unicode/utf8"
)

const ErrSyntax = 1
const ErrValue = 2
const ErrDomain = 3
const ErrRank = 4
const ErrLength = 5
const ErrIndex = 6
const ErrLimit = 7
const ErrFuel = 8
const ErrFull = 9

const MaxLine = 2000
const MaxInt = 1000000000000000
const MaxName = 20

const TokNum = 1
const TokText = 2
const TokName = 3
const TokSign = 4

const signs = `+-×÷⌊⌈|*=≠<≤≥>∧∨~⍴⍳,⌽⊖⍉↑↓⍋⍒∊/⌿\⍀.∘⊥⊤≢←[];(){}⍺⍵∇:⋄⍬`
const minusMark = "¯"
const quoteMark = "'"
const commentMark = '⍝'

// Token is described in the document.
type Token struct {
	Kind int
	N    int
	S    string
	At   int
}

// tokenReader reads the token at the front of a text: the token, how many bytes it has, and a code.
type tokenReader func(text string) (Token, int, int)

// Lex reads the tokens of a line.
func Lex(line []byte) ([]Token, int, int) {
	if len(line) > MaxLine {
		return nil, ErrLimit, 0
	}
	text := string(line)
	var tokens []Token
	end := 0
	for at, r := range text {
		if at < end || isBlank(r) {
			continue
		}
		if r == commentMark {
			break
		}
		read := readerOf(r)
		token, width, code := read(text[at:])
		if code != 0 {
			return nil, code, at
		}
		token.At = at
		tokens = append(tokens, token)
		end = at + width
	}
	return tokens, 0, 0
}

// TokenText writes a token.
func TokenText(t Token) string {
	text := spelling(t)
	// Lex itself is asked which tokens have a text, so that the two cannot disagree.
	t.At = 0
	back, code, _ := Lex([]byte(text))
	if code != 0 || len(back) != 1 || back[0] != t {
		return ""
	}
	return text
}

// spelling writes a token without asking whether it is one.
func spelling(t Token) string {
	switch t.Kind {
	case TokNum:
		return strings.Replace(strconv.Itoa(t.N), "-", minusMark, 1)
	case TokText:
		return quoteMark + strings.ReplaceAll(t.S, quoteMark, quoteMark+quoteMark) + quoteMark
	}
	return t.S
}

// readerOf tells by its first character of which kind a token is.
func readerOf(r rune) tokenReader {
	switch {
	case isDigit(r), string(r) == minusMark:
		return readNumber
	case string(r) == quoteMark:
		return readText
	case isLetter(r):
		return readName
	}
	return readSign
}

func readNumber(text string) (Token, int, int) {
	digits := strings.TrimPrefix(text, minusMark)
	below := len(digits) < len(text)
	count := stretch(digits, isDigit)
	rest := digits[count:]
	if count == 0 || stretch(rest, isLetter) > 0 || strings.HasPrefix(rest, minusMark) {
		return Token{}, 0, ErrSyntax
	}
	n, err := strconv.Atoi(digits[:count])
	if err != nil || n > MaxInt {
		return Token{}, 0, ErrLimit
	}
	if below {
		n = -n
	}
	return Token{Kind: TokNum, N: n}, len(text) - len(rest), 0
}

func readText(text string) (Token, int, int) {
	var s strings.Builder
	rest := text[len(quoteMark):]
	for {
		count := stretch(rest, isWithinText)
		s.WriteString(rest[:count])
		ended := false
		rest, ended = strings.CutPrefix(rest[count:], quoteMark)
		if !ended {
			return Token{}, 0, ErrSyntax
		}
		twice := false
		rest, twice = strings.CutPrefix(rest, quoteMark)
		if !twice {
			break
		}
		s.WriteString(quoteMark)
	}
	// A byte at which no character begins looks like U+FFFD to a range over a string, and that one is a character.
	if !utf8.ValidString(s.String()) {
		return Token{}, 0, ErrSyntax
	}
	return Token{Kind: TokText, S: s.String()}, len(text) - len(rest), 0
}

func readName(text string) (Token, int, int) {
	count := stretch(text, isLetterOrDigit)
	if count > MaxName {
		return Token{}, 0, ErrSyntax
	}
	return Token{Kind: TokName, S: text[:count]}, count, 0
}

func readSign(text string) (Token, int, int) {
	r, width := utf8.DecodeRuneInString(text)
	if !strings.ContainsRune(signs, r) {
		return Token{}, 0, ErrSyntax
	}
	return Token{Kind: TokSign, S: text[:width]}, width, 0
}

// stretch counts the bytes at the front of a text whose characters belong.
func stretch(text string, belongs func(rune) bool) int {
	for at, r := range text {
		if !belongs(r) {
			return at
		}
	}
	return len(text)
}

func isBlank(r rune) bool {
	return r == ' ' || r == '\t'
}

func isDigit(r rune) bool {
	return '0' <= r && r <= '9'
}

func isLetter(r rune) bool {
	return 'A' <= r && r <= 'Z' || 'a' <= r && r <= 'z'
}

func isLetterOrDigit(r rune) bool {
	return isLetter(r) || isDigit(r)
}

func isWithinText(r rune) bool {
	return string(r) != quoteMark && r != '\n'
}
