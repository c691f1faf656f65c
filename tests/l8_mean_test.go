package tests

import (
	"math"
	"slices"
	"strings"
	"testing"

	"loop.example/s02542/impl"
)

func TestMeanOfOrdinaryLines(t *testing.T) {
	shown(t, map[string]string{
		"5": "5\n", "1 2 3": "1 2 3\n", "'a'": "a\n", "'abc'": "abc\n", "''": "\n", "⍬": "\n", "¯5": "¯5\n", "2 2⍴⍳4": "1 2\n3 4\n", "1⋄2⋄⌽'ab'": "1\n2\nba\n",
		"2+3×4": "14\n", "(2+3)×4": "20\n", "10-3-2": "9\n", "-/5 3 1": "3\n", "+/⍳100": "5050\n", `+\1 2 3`: "1 3 6\n", "+⌿2 3⍴⍳6": "5 7 9\n", "+/2 3⍴⍳6": "6 15\n", "×⍀2 2⍴⍳4": "1 2\n3 8\n", `×\2 2⍴⍳4`: "1  2\n3 12\n",
		"1 2∘.×3 4 5": "3 4  5\n6 8 10\n", "(2 2⍴⍳4)+.×2 2⍴⍳4": " 7 10\n15 22\n", "1 2 3∧.=1 2 3": "1\n", "10 10⊤42": "4 2\n", "2⊥1 0 1": "5\n", "'abc'⍳'cxa'": "3 4 1\n", "'abc'∊'cxa'": "1 0 1\n", "⍋3 1 2": "2 3 1\n", "⍒3 1 2": "1 3 2\n", "1 0 2/'abc'": "acc\n", "≢2 3⍴0": "2\n",
		"'abcdef'[2 3⍴⍳6]": "abc\ndef\n", "(3 3⍴⍳9)[2;]": "4 5 6\n", "(3 3⍴⍳9)[;2]": "2 5 8\n", "(3 3⍴⍳9)[3 1;1 3]": "7 9\n1 3\n", "1 2 3[2]+10": "12\n", "x←1 2 3\nx[2]+10": "12\n", "x←3\n+/x×x": "9\n",
		"": "", "  \t ": "", "⍝ x←": "", "1 ⍝ 2": "1\n", "x←1⋄⍬⋄''": "\n\n", "1 2 3⍝\xff\n⍝\xff": "", "0 3⍴0": "", "3 0⍴0": "\n\n\n", "2 0 2⍴0": "",
	})
}

func TestMeanOfLinesThatParseRefuses(t *testing.T) {
	for line, code := range map[string]int{
		"x[": impl.ErrSyntax, "1+": impl.ErrSyntax, "+/x×x←3": impl.ErrSyntax, "x←": impl.ErrSyntax, "F": impl.ErrSyntax, "F←1": impl.ErrSyntax, "x←{⍵}": impl.ErrSyntax, "'a": impl.ErrSyntax, "\xff": impl.ErrSyntax, "1\n2": impl.ErrSyntax, "x⋄": impl.ErrSyntax, "(x+1)←2": impl.ErrSyntax, "(x)←2": impl.ErrSyntax, "⍺←1": impl.ErrSyntax, "1:2": impl.ErrSyntax,
		"1000000000000001": impl.ErrLimit, "¯1000000000000001": impl.ErrLimit, strings.Repeat(" ", impl.MaxLine+1): impl.ErrLimit, strings.Repeat("1+", 700) + "1": impl.ErrLimit, strings.Repeat("(", 41) + "1" + strings.Repeat("+1)", 41): impl.ErrLimit,
	} {
		for _, fuel := range []int{0, 1, 100, impl.MaxWork} {
			got := tell("x←1", line, "x").with(fuel).replies(t)[1]
			if !isReply(got, impl.Reply{Text: []byte(codeNames[code]), Code: code}) {
				t.Errorf("%q with %d: %s; want the code %d", line, fuel, replyName(got), code)
			}
		}
	}
	tell("x←1", "x←2⋄", "x").shows(t, "1\n")
}

func TestLinesAtTheirLimit(t *testing.T) {
	tell(strings.Repeat(" ", impl.MaxLine)).shows(t, "")
	tell("x←1", "x←2"+strings.Repeat(" ", impl.MaxLine-5), "x").shows(t, "2\n")
	tell("x←1", "x←2"+strings.Repeat(" ", impl.MaxLine-4), "x").shows(t, "1\n")
	tell(strings.Repeat("-", 38)+"1").shows(t, "1\n")
}

func TestNumberOfLines(t *testing.T) {
	lines := slices.Repeat([]string{"1"}, impl.MaxLines)
	for count := range impl.MaxLines + 1 {
		if count%10 != 0 && count != 1 {
			continue
		}
		replies := tell(lines[:count]...).replies(t)
		for i, r := range replies {
			if !isReply(r, impl.Reply{Text: []byte("1\n"), Work: 2, Made: 1}) {
				t.Errorf("%d of %d: %s", i, count, replyName(r))
			}
		}
	}
	wantNoReplies(t, tell(append(lines, "1")...))
	wantNoReplies(t, tell(append(lines, "")...))
	wantNoReplies(t, tell(slices.Repeat([]string{"x←1"}, 1000)...))
	wantNoReplies(t, tell(append(lines, "")...).with(0))
	counting := tell(slices.Concat([]string{"x←0"}, slices.Repeat([]string{"x+←1"}, impl.MaxLines-1))...)
	counting.has(t, "x", scalar(99))
}

// wantNoReplies asks that Mean says false, and Value of every name.
func wantNoReplies(t *testing.T, s told) {
	t.Helper()
	own := s.bytes()
	if got, ok := impl.Mean(own, s.fuel); ok || len(got) != 0 {
		t.Errorf("%d lines with %d: %d replies, %v", len(s.lines), s.fuel, len(got), ok)
	}
	for _, name := range []string{"x", "y", "F", ""} {
		if _, ok := s.value(t, name); ok {
			t.Errorf("%d lines with %d: %q has a value", len(s.lines), s.fuel, name)
		}
	}
	s.wantUntouched(t, own)
}

func TestFuelThatIsNone(t *testing.T) {
	for _, lines := range [][]string{nil, {""}, {"x←1"}, {"x←1", "x"}, {"["}} {
		for _, fuel := range []int{-1, -2, -impl.MaxWork, impl.MaxWork + 1, 1 << 31, 1 << 32, 1<<32 + 1, math.MaxInt, math.MinInt, math.MinInt + 1} {
			wantNoReplies(t, tell(lines...).with(fuel))
		}
		for _, fuel := range []int{0, 1, impl.MaxWork - 1, impl.MaxWork} {
			tell(lines...).with(fuel).replies(t)
		}
	}
	tell("x←1", "").with(0).shows(t, "")
	tell("x←1").with(0).fails(t, impl.ErrFuel)
	tell("x←1").with(0).hasNo(t, "x")
	tell("x←1").with(2).hasNo(t, "x")
	tell("x←1").with(3).has(t, "x", scalar(1))
}

func TestTextOfALineIsThatOfItsCodeAlone(t *testing.T) {
	for line, code := range map[string]int{
		"1⋄2⋄[": impl.ErrSyntax, "1⋄2⋄1 2+/3": impl.ErrSyntax, "1⋄2⋄u": impl.ErrValue, "1⋄'ab'⋄1÷0": impl.ErrDomain, "1⋄1 2+2 2⍴1": impl.ErrRank, "1⋄1 2+1 2 3": impl.ErrLength, "1⋄1 2[3]": impl.ErrIndex, "1⋄⍳10001": impl.ErrLimit, "1⋄(⍳9999)∘.+⍳9999": impl.ErrFuel,
	} {
		if got := tell(line, "1").replies(t); string(got[0].Text) != codeNames[code] || got[0].Code != code || string(got[1].Text) != "1\n" {
			t.Errorf("%q: %s; want the code %d", line, replyName(got[0]), code)
		}
	}
}

func TestValueOfNames(t *testing.T) {
	s := tell("x←1 2", "F←{⍵}", "y←3⋄1÷0", "z←4", "z←5⋄u", "aBc9←6", "abcdefghijklmnopqrst←7", "x[1]←9⋄x[3]←9")
	s.has(t, "x", vector(1, 2))
	s.has(t, "z", scalar(4))
	s.has(t, "aBc9", scalar(6))
	s.has(t, "abcdefghijklmnopqrst", scalar(7))
	for _, name := range []string{"F", "y", "u", "", " ", "x ", " x", "X", "f", "xx", "abc9", "ABC9", "abcdefghijklmnopqrs", "abcdefghijklmnopqrstu", "⍵", "⍺", "∇", "⍬", "1", "x[1]", "x←1", "\xff", "x\x00", "[", "2+2"} {
		s.hasNo(t, name)
	}
	tell().hasNo(t, "x")
	tell("").hasNo(t, "")
	tell("{x←⍵⋄x}1").hasNo(t, "x")
	tell("x←1", "{x←⍵⋄x}2").has(t, "x", scalar(1))
	tell("x←⍳9").with(13).hasNo(t, "x")
	tell("x←⍳9").with(14).has(t, "x", upTo(9))
}

// TestAnswersAreTheCallersOwn asks twice, and writes over the first answer in between.
func TestAnswersAreTheCallersOwn(t *testing.T) {
	lines := tell("x←1 2 3", "y←x", "x", "y", "u", "y[1]←5", "y").bytes()
	first, _ := impl.Mean(lines, 100)
	for i := range first {
		for at := range first[i].Text {
			first[i].Text[at] = '#'
		}
		first[i] = impl.Reply{Code: 77}
	}
	second, _ := impl.Mean(lines, 100)
	for i, want := range []string{"", "", "1 2 3\n", "1 2 3\n", "VALUE ERROR\n", "", "5 2 3\n"} {
		if string(second[i].Text) != want {
			t.Errorf("%d: %q; want %q", i, second[i].Text, want)
		}
	}
	for range 3 {
		a, ok := impl.Value(lines, 100, "x")
		if !ok || !isAlike(a, vector(1, 2, 3)) {
			t.Errorf("x is %s", arrayName(a))
		}
		writeOver(a.Data)
		writeOver(a.Shape)
	}
	// One line may be there several times, as the same memory.
	line := []byte("x←2 3⍴⍳6⋄(⍉x)←3 2⍴⍳6⋄x")
	same, ok := impl.Mean([][]byte{line, line, line}, 100)
	for _, r := range same {
		if !ok || string(r.Text) != "1 3 5\n2 4 6\n" {
			t.Errorf("%s", replyName(r))
		}
		for at := range r.Text {
			r.Text[at] = '#'
		}
	}
}
