package tests

import (
	"fmt"
	"strings"
	"testing"

	"loop.example/s02542/impl"
)

func TestWorkOfLeaves(t *testing.T) {
	worksOut(t, "", "", 0)
	worksOut(t, "⍝ x", "", 0)
	worksOut(t, "5", "1 1m", 0)
	worksOut(t, "1 2 3", "1 3m", 0)
	worksOut(t, "'a'", "1 1m", 0)
	worksOut(t, "''", "1 0m", 0)
	worksOut(t, "'⍝ it''s'", "1 6m", 0)
	worksOut(t, "⍬", "1 0m", 0)
	worksOut(t, "((5 6))", "1 2m", 0)
	worksOut(t, "x←4 5 6⋄x", "1 1 3m  1 3m", 0)
	worksOut(t, "x", "1", impl.ErrValue)
	worksOut(t, "⍵", "1", impl.ErrValue)
	worksOut(t, "⍺", "1", impl.ErrValue)
	worksOut(t, "1⋄2 3⋄⍬", "1 1m 1 2m 1 0m", 0)
	worksOut(t, "1⋄x⋄2 3", "1 1m 1", impl.ErrValue)
}

func TestWorkOfAnIndex(t *testing.T) {
	worksOut(t, "7 8 9[2 1]", "1 1 2m 1 3m 2m", 0)
	worksOut(t, "7 8 9[]", "1 1 3m 3m", 0)
	worksOut(t, "7 8 9[⍬]", "1 1 0m 1 3m 0m", 0)
	worksOut(t, "7 8 9[4]", "1 1 1m 1 3m", impl.ErrIndex)
	worksOut(t, "7 8 9[1;2]", "1 1 1m 1 1m 1 3m", impl.ErrRank)
	worksOut(t, "7 8 9[1 2][2]", "1 1 1m 1 1 2m 1 3m 2m 1m", 0)
	// A matrix of 2 3 by Reshape: its node, b, a, both, its elements; ahead of it stand the parts.
	worksOut(t, "(2 3⍴4 5)[;3 1]", "1  1 2m  1 1 2m 1 2m 4 6m  4m", 0)
	worksOut(t, "(2 3⍴4 5)[;]", "1  1 1 2m 1 2m 4 6m  6m", 0)
	worksOut(t, "(2 3⍴4 5)[2;1 2 3 1]", "1  1 4m 1 1m  1 1 2m 1 2m 4 6m  4m", 0)
}

// monadsOfTwo tells for each primitive how many elements it gives of a vector of two numbers that are 0 or 1, or its code.
var monadsOfTwo = map[string]int{"+": 2, "-": 2, "×": 2, "|": 2, "~": 2, "⍴": 1, ",": 2, "⌽": 2, "⊖": 2, "⍉": 2, "↑": 1, "⍋": 2, "⍒": 2, "∊": 2, "≢": 1, "⍳": -impl.ErrLength}

func TestWorkOfPrimitivesOfOneArgument(t *testing.T) {
	for _, sign := range primSigns {
		result, ok := monadsOfTwo[sign]
		steps, code := "1  1 2m  2", 0
		switch {
		case !ok:
			code = impl.ErrSyntax
		case result < 0:
			code = -result
		default:
			steps += fmt.Sprintf(" %dm", result)
		}
		worksOut(t, sign+"1 0", steps, code)
	}
	worksOut(t, "⍳7", "1  1 1m  1 7m", 0)
	worksOut(t, "⍳0", "1  1 1m  1 0m", 0)
	worksOut(t, "⍳'a'", "1  1 1m  1", impl.ErrDomain)
	worksOut(t, "⍳10001", "1  1 1m  1", impl.ErrLimit)
	worksOut(t, "⌽⍬", "1  1 0m  0 0m", 0)
	worksOut(t, "~2 0", "1  1 2m  2", impl.ErrDomain)
	worksOut(t, "∊⊤1 2", "1  1  1 2m  2", impl.ErrSyntax)
	worksOut(t, "∊⍳1 2", "1  1  1 2m  2", impl.ErrLength)
}

func TestWorkOfPrimitivesOfTwoArguments(t *testing.T) {
	for _, sign := range primSigns[:impl.FnOr] {
		worksOut(t, "1 1 1"+sign+"1 0 1", map[bool]string{false: "1  1 3m  1 3m  6 3m", true: "1  1 3m  1 3m  6"}[sign == "÷"], map[bool]int{true: impl.ErrDomain}[sign == "÷"])
	}
	worksOut(t, "6 8÷2 4", "1  1 2m  1 2m  4 2m", 0)
	// Those with a vector of two ahead and one of three behind; the first number is what they count, the second what they give, or their code.
	for sign, counts := range map[string][2]int{
		"⍴": {5, 2}, "⍳": {11, 3}, ",": {5, 5}, "∊": {11, 2}, "⊤": {11, 6}, "+": {5, -impl.ErrLength}, "⌽": {5, -impl.ErrLength}, "⊖": {5, -impl.ErrLength}, "⍉": {5, -impl.ErrLength}, "↑": {5, -impl.ErrLength}, "↓": {5, -impl.ErrLength}, "/": {5, -impl.ErrLength},
		"⌿": {5, -impl.ErrLength}, "⊥": {5, -impl.ErrLength}, "~": {5, -impl.ErrSyntax}, "⍋": {5, -impl.ErrSyntax}, "⍒": {5, -impl.ErrSyntax}, "≢": {5, -impl.ErrSyntax},
	} {
		steps := fmt.Sprintf("1  1 3m  1 2m  %d", counts[0])
		if counts[1] >= 0 {
			worksOut(t, "1 2"+sign+"3 4 5", fmt.Sprintf("%s %dm", steps, counts[1]), 0)
		} else {
			worksOut(t, "1 2"+sign+"3 4 5", steps, -counts[1])
		}
	}
	for sign, result := range map[string]int{"⌽": 3, "⊖": 3, "⍉": 3, "↑": 1, "↓": 2, "/": 3, "⌿": 3, "⊥": 1, "+": 3, "⍴": 1, "⊤": 3} {
		counted := 4
		if sign == "⊤" {
			counted += 3
		}
		worksOut(t, "1"+sign+"3 4 5", fmt.Sprintf("1  1 3m  1 1m  %d %dm", counted, result), 0)
	}
	worksOut(t, "5↑3 4", "1  1 2m  1 1m  3 5m", 0)
	worksOut(t, "3 0 2/4 5 6", "1  1 3m  1 3m  6 5m", 0)
	worksOut(t, "3 4 5⍳⍬", "1  1 0m  1 3m  3 0m", 0)
	worksOut(t, "⍬∊3 4", "1  1 2m  1 0m  2 0m", 0)
	worksOut(t, "2 2⊤'abc'", "1  1 3m  1 2m  11", impl.ErrDomain)
	worksOut(t, "5⍳3 4 5", "1  1 3m  1 1m  7", impl.ErrRank)
}

func TestWorkOfReductionsAndScans(t *testing.T) {
	table := "1 1 1m 1 2m 3 6m"
	worksOut(t, "+/3 4 5", "1  1 3m  3 1m", 0)
	worksOut(t, "+⌿3 4 5", "1  1 3m  3 1m", 0)
	worksOut(t, "+/5", "1  1 1m  1 1m", 0)
	worksOut(t, "×/⍬", "1  1 0m  0 1m", 0)
	worksOut(t, "+/2 3⍴1", "1  "+table+"  6 2m", 0)
	worksOut(t, "+⌿2 3⍴1", "1  "+table+"  6 3m", 0)
	worksOut(t, "+/'ab'", "1  1 2m  2", impl.ErrDomain)
	worksOut(t, "1 2+/3 4 5", "1  1 3m  1 2m  5", impl.ErrSyntax)
	worksOut(t, "1 2+⌿3 4 5", "1  1 3m  1 2m  5", impl.ErrSyntax)

	worksOut(t, `+\3 4 5`, "1  1 3m  12 3m", 0)
	worksOut(t, "+⍀3 4 5", "1  1 3m  12 3m", 0)
	worksOut(t, `+\5`, "1  1 1m  2 1m", 0)
	worksOut(t, "+⍀5", "1  1 1m  2 1m", 0)
	worksOut(t, `+\⍬`, "1  1 0m  0 0m", 0)
	worksOut(t, `+\2 3⍴1`, "1  "+table+"  24 6m", 0)
	worksOut(t, "+⍀2 3⍴1", "1  "+table+"  18 6m", 0)
	worksOut(t, `+\2 1 4⍴1`, "1  1 1 1m 1 3m 4 8m  40 8m", 0)
	worksOut(t, "+⍀2 1 4⍴1", "1  1 1 1m 1 3m 4 8m  24 8m", 0)
	worksOut(t, `+\5 0⍴1`, "1  1 1 1m 1 2m 3 0m  0 0m", 0)
	worksOut(t, `+\'ab'`, "1  1 2m  6", impl.ErrDomain)
	worksOut(t, `1 2+\3 4 5`, "1  1 3m  1 2m  14", impl.ErrSyntax)
	worksOut(t, "1 2+⍀2 3⍴1", "1  "+table+"  1 2m  20", impl.ErrSyntax)
	worksOut(t, `1 2+\7`, "1  1 1m  1 2m  4", impl.ErrSyntax)
}

func TestWorkOfProducts(t *testing.T) {
	worksOut(t, "1 2∘.+3 4 5", "1  1 3m  1 2m  11 6m", 0)
	worksOut(t, "1∘.+3", "1  1 1m  1 1m  3 1m", 0)
	worksOut(t, "1 2∘.+⍬", "1  1 0m  1 2m  2 0m", 0)
	worksOut(t, "1 2∘.+'abc'", "1  1 3m  1 2m  11", impl.ErrDomain)
	worksOut(t, "∘.+3 4 5", "1  1 3m  3", impl.ErrSyntax)
	worksOut(t, "1 2 3+.×3 4 5", "1  1 3m  1 3m  15 1m", 0)
	worksOut(t, "2+.×3 4 5", "1  1 3m  1 1m  7 1m", 0)
	worksOut(t, "1 2+.×3 4 5", "1  1 3m  1 2m  11", impl.ErrLength)
	worksOut(t, "+.×3 4 5", "1  1 3m  3", impl.ErrSyntax)
	worksOut(t, "(2 3⍴1)+.×3 4⍴1", "1  1 1 1m 1 2m 3 12m  1 1 1m 1 2m 3 6m  90 8m", 0)
}

func TestWorkOfCalls(t *testing.T) {
	worksOut(t, "{⍵}4 5", "1  1 2m  2  1 2m  2m", 0)
	worksOut(t, "3{⍵}4 5", "1  1 2m  1 1m  3  1 2m  2m", 0)
	worksOut(t, "3 4 6{⍺}5", "1  1 1m  1 3m  4  1 3m  3m", 0)
	worksOut(t, "{⍬}4 5", "1  1 2m  2  1 0m  0m", 0)
	worksOut(t, "{}4 5", "1  1 2m  2", impl.ErrValue)
	worksOut(t, "{⍺}4 5", "1  1 2m  2  1", impl.ErrValue)
	worksOut(t, "{x←⍵}4 5", "1  1 2m  2  1  1 2m", impl.ErrValue)
	worksOut(t, "{x←⍵⋄x}4 5", "1  1 2m  2  1 1 2m  1 2m  2m", 0)
	worksOut(t, "F←{⍵⋄x}⋄F 4", "1  1 1 1m 1  1 1m  1m", 0)
	worksOut(t, "F←{F}", "", impl.ErrSyntax)
	worksOut(t, "F←{F ⍵}", "1", 0)
	worksOut(t, "F 4 5", "1  1 2m  2", impl.ErrValue)
	worksOut(t, "1 F 4 5", "1  1 2m  1 1m  3", impl.ErrValue)
	worksOut(t, "∇4 5", "1  1 2m  2", impl.ErrValue)
	worksOut(t, "{F←{8 9}⋄F ⍵}4", "1  1 1m  1  1  1 1 1m 1  1 2m  2m  2m", 0)
	worksOut(t, "{⍵=0:7 8⋄∇⍵-1}1", "1  1 1m  1   1  1 1 1m 1 1m 2 1m   1  1 1 1m 1 1m 2 1m  1   1  1 1 1m 1 1m 2 1m  1 2m  2m  2m", 0)
}

func TestWorkOfGuards(t *testing.T) {
	begun := "1  1 1m  1  "
	worksOut(t, "{1:7 8⋄9}6", begun+"1 1 1m  1 2m  2m", 0)
	worksOut(t, "{0:7 8⋄9}6", begun+"1 1 1m  1 1m  1m", 0)
	worksOut(t, "{0:7 8}6", begun+"1 1 1m", impl.ErrValue)
	worksOut(t, "{2:7 8}6", begun+"1 1 1m", impl.ErrDomain)
	worksOut(t, "{1 1:7 8}6", begun+"1 1 2m", impl.ErrLength)
	worksOut(t, "{x:7 8}6", begun+"1 1", impl.ErrValue)
	worksOut(t, "{1:x}6", begun+"1 1 1m  1", impl.ErrValue)
	worksOut(t, "{0:x⋄0:y⋄1:3}6", begun+"1 1 1m  1 1 1m  1 1 1m  1 1m  1m", 0)
}

func TestWorkOfAssignments(t *testing.T) {
	worksOut(t, "x←4 5", "1  1 2m", 0)
	worksOut(t, "F←{1 2 3}", "1", 0)
	worksOut(t, "F←{x←1⋄y[2]←3⋄(⌽y)←2⋄x+←1⋄1:2}", "1", 0)
	worksOut(t, "x←x", "1  1", impl.ErrValue)
	three := "1 1 3m  "
	worksOut(t, "x←4 5 6⋄x[2]←9", three+"1  1 1m  1 1m  3m", 0)
	worksOut(t, "x←4 5 6⋄x[]←7 8 9", three+"1  1 3m  3m", 0)
	worksOut(t, "x←4 5 6⋄x[⍬]←7", three+"1  1 1m  1 0m  3m", 0)
	worksOut(t, "x←4 5 6⋄x[4]←7", three+"1  1 1m  1 1m", impl.ErrIndex)
	worksOut(t, "x[2]←9", "1  1 1m  1 1m", impl.ErrValue)
	worksOut(t, "x←2 3⍴0⋄x[1 2;3]←9", "1  1 1 1m 1 2m 3 6m  1  1 1m  1 1m  1 2m  6m", 0)
	worksOut(t, "x←4 5 6⋄x+←2", three+"1  1 1m  3m", 0)
	worksOut(t, "x←4⋄x×←2 3 4 5", "1 1 1m  1  1 4m  4m", 0)
	worksOut(t, "x←4 5 6⋄x÷←0", three+"1  1 1m", impl.ErrDomain)
	worksOut(t, "x←4 5 6⋄x+←1 2", three+"1  1 2m", impl.ErrLength)
	worksOut(t, "x+←2", "1  1 1m", impl.ErrValue)
}

func TestWorkOfSelections(t *testing.T) {
	three := "1 1 3m  "
	worksOut(t, "x←4 5 6⋄(⌽x)←2", three+"1  1 1m  1 3 3m  3m", 0)
	worksOut(t, "x←4 5 6⋄(,x)←7 8 9", three+"1  1 3m  1 3 3m  3m", 0)
	worksOut(t, "x←4 5 6⋄(x[2 1])←2", three+"1  1 1m  1 1 2m 2m  3m", 0)
	worksOut(t, "x←4 5 6⋄(x[])←2", three+"1  1 1m  1 3m  3m", 0)
	worksOut(t, "x←4 5 6⋄(2↑x)←9", three+"1  1 1m  1  1 1m 4 2m  3m", 0)
	worksOut(t, "x←4 5 6⋄(2↓x)←9", three+"1  1 1m  1  1 1m 4 1m  3m", 0)
	worksOut(t, "x←4 5 6⋄(2↑⌽x)←9", three+"1  1 1m  1  1 3 3m  1 1m 4 2m  3m", 0)
	worksOut(t, "x←4 5 6⋄((⌽x)[3])←9", three+"1  1 1m  1  1 1m  1 3 3m  1m  3m", 0)
	// What stands beside the name is evaluated as always, also when it is the name itself.
	worksOut(t, "x←1 2⋄(x[x])←9", "1 1 2m  1  1 1m  1 1 2m 2m  2m", 0)
	worksOut(t, "x←1⋄((x+0)⌽x)←9", "1 1 1m  1  1 1m  1  1 1 1m 1 1m 2 1m  2 1m  1m", 0)
	worksOut(t, "x←4 5 6⋄(4↑x)←9", three+"1  1 1m  1  1 1m 4", impl.ErrIndex)
	worksOut(t, "x←4 5 6⋄(1 2↑x)←9", three+"1  1 1m  1  1 2m 5", impl.ErrLength)
	worksOut(t, "x←4 5 6⋄(2↑x)←7 8 9", three+"1  1 3m  1  1 1m 4 2m", impl.ErrLength)
	worksOut(t, "x←4 5 6⋄(⌽x)←'a'", three+"1  1 1m  1 3 3m", impl.ErrDomain)
	worksOut(t, "(⌽x)←2 3", "1  1 2m", impl.ErrValue)
	worksOut(t, "(2↑x)←y", "1  1", impl.ErrValue)
	worksOut(t, "x←4 5 6⋄(x[4])←9", three+"1  1 1m  1 1 1m", impl.ErrIndex)
}

// TestFuelIsOfEachLine has lines that each need all of it.
func TestFuelIsOfEachLine(t *testing.T) {
	for i, r := range tell("x←⍳3", "y←⍳3", "x←⍳4", "(x,y)", "x⋄y").with(8).replies(t) {
		want := []impl.Reply{{Work: 8, Made: 4}, {Work: 8, Made: 4}, {Text: []byte("FUEL ERROR\n"), Code: impl.ErrFuel, Work: 8, Made: 1}, {Text: []byte("FUEL ERROR\n"), Code: impl.ErrFuel, Work: 8, Made: 3}, {Text: []byte("1 2 3\n1 2 3\n"), Work: 8, Made: 6}}[i]
		if !isReply(r, want) {
			t.Errorf("%d: %s; want %s", i, replyName(r), replyName(want))
		}
	}
}

// TestFuelOfMaxWork has lines for which there can't be enough; a function's products alone may be too much, ahead of its codes.
func TestFuelOfMaxWork(t *testing.T) {
	for line, want := range map[string]impl.Reply{
		"(⍳10000)⍳⍳10000":   {Code: impl.ErrFuel, Work: 200000, Made: 20002},
		"(⍳10000)∊⍳10000":   {Code: impl.ErrFuel, Work: 200000, Made: 20002},
		"(⍳10000)⊤⍳10000":   {Code: impl.ErrFuel, Work: 200000, Made: 20002},
		"(⍳10000)∘.+⍳10000": {Code: impl.ErrFuel, Work: 200000, Made: 20002},
		"(⍳10000)+.×⍳10000": {Code: impl.ErrFuel, Work: 200000, Made: 20002},
		`+\⍳10000`:          {Code: impl.ErrFuel, Work: 200000, Made: 10001},
		"(⍳300)∘.+⍳300":     {Code: impl.ErrLimit, Work: 91209, Made: 602},
		"≢(⍳100)∘.+⍳100":    {Work: 30411, Made: 10203},
	} {
		got := tell(line).last(t)
		if got.Code != want.Code || got.Work != want.Work || got.Made != want.Made {
			t.Errorf("%q: %s; want %s", line, replyName(got), replyName(want))
		}
	}
}

// TestLinesThatNeedMaxWork have 100 times a name with 1998 elements, and an assignment that counts 8 and its elements.
func TestLinesThatNeedMaxWork(t *testing.T) {
	names := strings.Repeat("x⋄", 100)
	for last, want := range map[string]impl.Reply{
		"y←92⍴0": {Work: 200000, Made: 199800 + 2 + 92},
		"y←93⍴0": {Code: impl.ErrFuel, Work: 200000, Made: 199800 + 2},
	} {
		got := tell("x←1998⍴0", names+last).last(t)
		if got.Code != want.Code || got.Work != want.Work || got.Made != want.Made {
			t.Errorf("%q: code %d, work %d, made %d; want %s", last, got.Code, got.Work, got.Made, replyName(want))
		}
	}
}
