package tests

import (
	"fmt"
	"math"
	"strings"
	"sync"
	"testing"

	"loop.example/s02542/impl"
)

// wantNothing asks that Run says false, with no replies.
func wantNothing(t *testing.T, s ran) {
	t.Helper()
	own := s.bytes()
	if got, ok := impl.Run(own, s.fuel, s.budget); ok || len(got) != 0 {
		t.Errorf("%d lines with %d within %d: %d replies, %v", len(s.lines), s.fuel, s.budget, len(got), ok)
	}
	s.wantUntouched(t, own)
}

func TestBudgetsThatAreNone(t *testing.T) {
	for _, lines := range [][]string{nil, {""}, {"x←1"}, {"x←1 2", "x"}, {"["}} {
		for _, budget := range []int{-1, -2, -impl.MaxBudget, impl.MaxBudget + 1, 2 * impl.MaxBudget, 1 << 31, 1 << 32, 1<<32 + 1, -1 << 32, math.MaxInt, math.MinInt, math.MinInt + 1} {
			wantNothing(t, run(lines...).within(budget))
			wantNothing(t, run(lines...).within(budget).with(-1))
		}
		for _, budget := range []int{0, 1, 2, impl.MaxBudget - 1, impl.MaxBudget} {
			run(lines...).within(budget).replies(t)
		}
	}
}

func TestRunSaysFalseWhereMeanDoes(t *testing.T) {
	for _, budget := range []int{0, 7, impl.MaxBudget} {
		for _, fuel := range []int{-1, -impl.MaxWork, impl.MaxWork + 1, 1 << 32, math.MaxInt, math.MinInt} {
			wantNothing(t, run("x←1 2").within(budget).with(fuel))
			wantNothing(t, run().within(budget).with(fuel))
		}
		for _, count := range []int{0, 1, impl.MaxLines - 1, impl.MaxLines} {
			run(strings.Fields(strings.Repeat("5 ", count))...).within(budget).replies(t)
		}
		for _, count := range []int{impl.MaxLines + 1, 1000} {
			wantNothing(t, run(strings.Fields(strings.Repeat("5 ", count))...).within(budget))
		}
		for _, fuel := range []int{0, 1, impl.MaxWork} {
			run("x←1 2", "x").within(budget).with(fuel).replies(t)
		}
	}
}

// TestWithoutCells has a budget of 0, with which all that is plain may be done.
func TestWithoutCells(t *testing.T) {
	for line, want := range map[string]string{
		"5": "5\n", "⍳3": "1 2 3\n", "⌽⍳3": "3 2 1\n", "x←⍳3⋄x[2]": "2\n", "''": "\n", "⍬": "\n", "'a'": "a\n", "3⍴7": "7 7 7\n", "+/⍳100": "5050\n", "2↑⍳3": "1 2\n", "(⍳5)[2]": "2\n", "(⍳5)[⍳3]": "1 2 3\n", "F←{⍵<2:1⋄⍵×∇⍵-1}⋄F 5": "120\n", "x←5⋄x+←1⋄x": "6\n", "x←,5⋄x[1]←7⋄(⌽x)←8⋄x": "8\n", "≢⍳9": "9\n", "1 +1": "2\n",
	} {
		run(line).within(0).shows(t, want)
	}
	for _, line := range []string{"1 2", "'ab'", "1+⍳2", "1,2", "2⍴⍬", "3⍴⍳2", "3↑⍳2", "-⍳2", "⍋⍳2", "1⌽⍳2", "x←⍳2⋄x[1]←2", "x←⍳2⋄x+←1", "x←⍳2⋄(⌽x)←1", "(⍳3)[⍳2]+1", "1/⍳2", "(⍳2)∘.+1", `+\⍳2`, "1∊⍳2⋄(⍳2)∊1"} {
		got := run(line, "5").within(0).replies(t)
		if got[0].Code != impl.ErrFull || string(got[0].Text) != "WS FULL\n" || got[0].Live != 0 || got[0].Cells != 0 || string(got[1].Text) != "5\n" {
			t.Errorf("%q: %s", line, ranName(got[0]))
		}
	}
}

// TestErrFullComesBehindAllOtherCodes has functions, indexes and stmts whose arguments are plain and which would take cells, with none to be had.
func TestErrFullComesBehindAllOtherCodes(t *testing.T) {
	for line, code := range map[string]int{
		"(⍳3)÷0": impl.ErrDomain, "(⍳3)÷2": impl.ErrDomain, "(⍳3)+⍳4": impl.ErrLength, "(⍳3)+'a'": impl.ErrDomain, "(⍳3)×1000000000000000": impl.ErrLimit, "(3⍴⍳3)+,5↑1": impl.ErrFull, "(⍳3)∘.÷⍳2": impl.ErrDomain, "(⍳200)∘.+⍳200": impl.ErrLimit, "(⍳3)+.÷0": impl.ErrDomain,
		"~⍳3": impl.ErrDomain, "(⍳3)/⍳4": impl.ErrLength, "(⍳3)⊥⍳4": impl.ErrLength, "5⍳⍳3": impl.ErrRank, "(-1)⍴⍳3": impl.ErrDomain, "10001⍴⍳3": impl.ErrLimit, "10001↑⍳3": impl.ErrLimit, "'a'⌽⍳3": impl.ErrDomain, "(⍳2)⌽⍳3": impl.ErrLength, "(⍳3),3⍴'a'": impl.ErrDomain, "(⍳9999),⍳2": impl.ErrLimit, "1 +/⍳3": impl.ErrSyntax, "+.×⍳3": impl.ErrSyntax, "1⍋⍳3": impl.ErrSyntax, "⊤⍳3": impl.ErrSyntax,
		"p[9⍴7]": impl.ErrIndex, "p[p;p]": impl.ErrRank, "p[3⍴'a']": impl.ErrDomain, "p[⍳7]←0": impl.ErrIndex, "p[p]←⍳5": impl.ErrLength, "p[1]←'a'": impl.ErrDomain, "p[1;1]←5": impl.ErrRank, "p÷←0": impl.ErrDomain, "p+←⍳5": impl.ErrLength, "p×←1000000000000000": impl.ErrLimit, "(⌽p)←⍳5": impl.ErrLength, "(7↑p)←5": impl.ErrIndex, "(p[7])←5": impl.ErrIndex, "(⌽p)←'a'": impl.ErrDomain,
		"u[1]←5": impl.ErrValue, "u+←⍳3": impl.ErrValue, "(⌽u)←⍳3": impl.ErrValue, "u+⍳3": impl.ErrValue, "1÷0+u": impl.ErrValue,
		// These have no other code.
		"(⍳3)+1": impl.ErrFull, "p[1]←5": impl.ErrFull, "p+←1": impl.ErrFull, "(⌽p)←5": impl.ErrFull, "(⍳3),4": impl.ErrFull,
		// Values come one after the other: the first that has a code is the line's.
		"(1 2+1)÷0": impl.ErrFull, "1÷0+1 2": impl.ErrFull, "1 2+1÷0": impl.ErrDomain, "(1÷0)+1 2": impl.ErrFull, "p[1 2]←1÷0": impl.ErrDomain, "p[1÷0]←1 2": impl.ErrFull, "1 2⋄1÷0": impl.ErrFull, "1÷0⋄1 2": impl.ErrDomain, "1 2[9]": impl.ErrFull, "(1÷0)[1 2]": impl.ErrFull,
	} {
		run("p←⍳6", line).within(0).fails(t, code)
		run("p←⍳6", "y←1 2 3", "z←⌽y", line).within(3).fails(t, code)
	}
	// Names are full behind the value of what would be one more.
	full := run(assignments(0, 50, false), assignments(50, 50, false))
	full.then("y←1 2 3").within(3).fails(t, impl.ErrLimit)
	full.then("y←1 2 3").within(2).fails(t, impl.ErrFull)
	if r := full.then("y←1 2 3").last(t); r.Cells != 3 || r.Live != 0 {
		t.Errorf("%s", ranName(r))
	}
}

// TestErrFullComesBehindWorkAndMade has each fuel up to what a line has worked when it has too few cells: with less it is ErrFuel.
func TestErrFullComesBehindWorkAndMade(t *testing.T) {
	for _, c := range []struct {
		line       string
		work, made int
	}{
		{"1 2", 3, 2}, {"'abc'", 4, 3}, {"y←1 2", 4, 2}, {"(⍳3)+1", 1 + 2 + 7 + 4 + 3, 1 + 4 + 3}, {"p[1]←9", 1 + 2 + 2 + 6, 1 + 1 + 6}, {"p+←1", 1 + 2 + 6, 1 + 6}, {"(⌽p)←1", 1 + 2 + 1 + 6 + 6 + 6, 1 + 6 + 6}, {"p[2 1 1⌊3]", 1 + 1 + 2 + 4, 1 + 3}, {"p[⌽p,1]", 1 + 1 + 1 + 2 + 7 + 7 + 7, 1 + 6 + 7}, {"-p", 1 + 7 + 6 + 6, 6 + 6}, {"{-⍵}p", 1 + 7 + 6 + 1 + 7 + 6 + 6, 6 + 6 + 6}, {"5⋄7↑p", 2 + 1 + 7 + 2 + 7 + 7, 1 + 6 + 1 + 7},
	} {
		s := run(c.line).within(0)
		least := 0
		if strings.Contains(c.line, "p") {
			// With less there would be no p.
			s, least = run("p←⍳6", c.line).within(0), 11
		}
		for fuel := least; fuel < c.work+3; fuel++ {
			code, work := impl.ErrFull, c.work
			if fuel < c.work {
				code, work = impl.ErrFuel, fuel
			}
			if r := s.with(fuel).last(t); r.Code != code || r.Work != work || code == impl.ErrFull && r.Made != c.made || r.Cells != 0 {
				t.Errorf("%s: %s; want the code %d, work %d, made %d", s.with(fuel), ranName(r), code, work, c.made)
			}
		}
		if r := s.last(t); r.Code != impl.ErrFull || r.Work != c.work || r.Made != c.made {
			t.Errorf("%q: %s; want work %d, made %d", c.line, ranName(r), c.work, c.made)
		}
	}
}

// TestCellsOfALineWithACode has what new values took up to it, also of those that are gone.
func TestCellsOfALineWithACode(t *testing.T) {
	for line, cells := range map[string]int{
		"1 2 3÷0": 3, "1 2÷3 4": 4, "1 2⋄3 4 5⋄u": 5, "y←1 2⋄y←3 4 5⋄1÷0": 5, "1 2+3 4 5": 5, "(1 2+3 4)+5 6 7": 9, "u+1 2": 2, "1 2+u": 0, "x[1]←9⋄x[2]←9⋄u": 6, "x[7]←1 2": 2, "x[1 2]←3 4 5": 5, "{y←1 2 3⋄u}4 5": 5, "{∇1 2}0": 2 * impl.MaxCalls, "[": 0, "1 2[": 0, "x←1 2⋄x[1 2 3]": 5, "x-←1 2": 2, "(⌽x)←1 2": 2, "(1 2⌽x)←0": 2, "{⍵:0}1 2": 2,
	} {
		got := runAll(isX).then(line, "x[1]←5", "x").replies(t)
		if got[1].Code == 0 || got[1].Cells != cells || got[1].Live != 6 || got[2].Cells != 0 || string(got[3].Text) != "5 2 3 4 5 6\n" {
			t.Errorf("%q: %s; want cells %d; then %s", line, ranName(got[1]), cells, ranName(got[2]))
		}
	}
	// The value that has no cells any more is not counted.
	for budget, cells := range []int{6: 0, 7: 0, 8: 2, 9: 2, 10: 4, 11: 4, 12: 6} {
		if budget < 6 {
			continue
		}
		r := runAll(isX).then("1 2+3 4").within(budget).last(t)
		if isFull := budget < 12; (r.Code == impl.ErrFull) != isFull || r.Cells != cells {
			t.Errorf("within %d: %s; want cells %d", budget, ranName(r), cells)
		}
	}
}

// TestALineWithErrFullLeavesAll has every kind of assignment ahead of a value that has no cells, then looks at the names, and writes in place as if nothing had been.
func TestALineWithErrFullLeavesAll(t *testing.T) {
	before := isX + "\ny←⌽x\nz←1 2 3\nF←{⍵+1}"
	for _, assigned := range []string{"x←9", "x←z", "x[2]←z[1]", "z[1]←9", "z+←1", "(⌽z)←5", "y←z⋄x←z", "z←x⋄x←0⋄y←0", "F←{9}", "w←5⋄G←{⍵}", "z←0⋄x←0⋄y←0", "z[1]←9⋄z[2]←8⋄z←⌽z"} {
		for _, full := range []string{"99 98 97 96 95 94 93 92 91 90 89 88", "(⍳5),⍳5", "{a←⍵⋄a[1]←9⋄b←⌽a⋄b,b,b,b,b}1 2 3", "w←'abcdefghijklmnopq'"} {
			line := assigned + "⋄" + full
			got := runAll(before).then(line, "x⋄y⋄z⋄F 1", "w", "G 1", "z[3]←7", "z", "x[1]←7", "x←0", "y[1]←8", "y", "x←0⋄y←0⋄z←0").within(18).replies(t)[4:]
			if got[0].Code != impl.ErrFull || got[0].Live != 9 {
				t.Fatalf("%q: %s", line, ranName(got[0]))
			}
			if string(got[1].Text) != "1 2 3 4 5 6\n6 5 4 3 2 1\n1 2 3\n2\n" || got[2].Code != impl.ErrValue || got[3].Code != impl.ErrValue {
				t.Errorf("behind %q: %s, %s, %s", line, ranName(got[1]), ranName(got[2]), ranName(got[3]))
			}
			// z is written in place; x is not, as y looks, until x is something else.
			if got[4].Cells != 0 || string(got[5].Text) != "1 2 7\n" || got[6].Cells != 6 || got[6].Live != 15 || got[7].Live != 9 || got[8].Cells != 0 || string(got[9].Text) != "8 5 4 3 2 1\n" || got[10].Live != 0 {
				t.Errorf("behind %q: %s, %s, %s, %s", line, ranName(got[4]), ranName(got[6]), ranName(got[8]), ranName(got[10]))
			}
		}
	}
}

// TestJustTheCells has sessions that fill all their cells to the last, and give them back.
func TestJustTheCells(t *testing.T) {
	s := run("x←1 2 3", "y←4 5 6", "z←7 8", "z←7", "x[1]←9", "y+←1", "x←0", "z←7 8 9", "x←1", "y←0", "z←0", "x←1 2 3 4 5 6", "x←x")
	codes := []int{0, 0, impl.ErrFull, 0, 0, 0, 0, 0, 0, 0, 0, 0, 0}
	lives := []int{3, 6, 6, 6, 6, 6, 3, 6, 6, 3, 0, 6, 6}
	for i, r := range s.within(6).replies(t) {
		if r.Code != codes[i] || r.Live != lives[i] {
			t.Errorf("%q: %s; want the code %d, live %d", s.lines[i], ranName(r), codes[i], lives[i])
		}
	}
	// As great as may be.
	great := run("x←10000⍴1 2", "y←x+1", "z←⌽y", "y[1]←0")
	for budget, code := range map[int]int{30000: 0, 29999: impl.ErrFull, 20000: impl.ErrFull, impl.MaxBudget: 0} {
		great.within(budget).fails(t, code)
	}
	great.then("x←0⋄y←0⋄z←0").within(30000).fails(t, 0)
	// There are never so many cells live as there may be at most.
	var lines []string
	for i := range impl.MaxLines {
		lines = append(lines, fmt.Sprintf("n%d←10000⍴1 2", i))
	}
	if r := run(lines...).last(t); r.Code != 0 || r.Live != 1000000 {
		t.Errorf("%s", ranName(r))
	}
	if r := run(lines...).within(1000001).last(t); r.Code != impl.ErrFull || r.Live != 990000 {
		t.Errorf("%s", ranName(r))
	}
	run(lines...).within(1000002).fails(t, 0)
}

// TestSessionsKnowNothingOfEachOther runs the same and other lines again, and at the same time.
func TestSessionsKnowNothingOfEachOther(t *testing.T) {
	s := runAll(isX + "\ny←⌽x\nx[1]←9\nF←{z←1 2 3⋄z[1]←⍵⋄z}\nF 5\ny\n[\nx←7 8\nx,y").within(40)
	want := s.replies(t)
	run("x", "F 1", "y[1]").within(0).fails(t, impl.ErrValue)
	var wait sync.WaitGroup
	for range 8 {
		wait.Go(func() {
			for range 50 {
				got, ok := impl.Run(s.bytes(), s.fuel, s.budget)
				for i := range want {
					if !ok || !isReply(got[i], want[i]) {
						t.Errorf("reply %d is %s; want %s", i, ranName(got[i]), ranName(want[i]))
						return
					}
				}
			}
		})
	}
	wait.Wait()
	// One line may be there several times, as the same memory, and replies are the caller's own.
	line := []byte("x←2 3⍴⍳6⋄x+←0⋄(⍉x)←3 2⍴⍳6⋄x")
	for range 2 {
		same, ok := impl.Run([][]byte{line, line, line}, 100, 40)
		for i, r := range same {
			if !ok || string(r.Text) != "1 3 5\n2 4 6\n" || r.Live != 6 {
				t.Errorf("%s", ranName(r))
			}
			for at := range r.Text {
				r.Text[at] = '#'
			}
			same[i] = impl.Reply{Code: 77}
		}
	}
	if string(line) != "x←2 3⍴⍳6⋄x+←0⋄(⍉x)←3 2⍴⍳6⋄x" {
		t.Errorf("the line became %q", line)
	}
}

// TestRunAlwaysEnds has lines that work as long as fuel and calls let them.
func TestRunAlwaysEnds(t *testing.T) {
	for _, lines := range []string{
		"F←{∇⍵}\nF 1", "F←{⍵∇⍵}\n1 F 1", "F←{G ⍵}\nG←{F ⍵,⍵}\nG 1 2", "F←{x←⍵,⍵⋄∇x}\nF 1 2", "F←{⍵=0:0⋄(∇⍵-1)+∇⍵-1}\nF 30", "F←{⍵=0:⍳9⋄(∇⍵-1),∇⍵-1}\nF 30", "x←⍳9999\nx∘.=⍳20", "(⍳10000)∊⍳10000", `+\⍳10000`, "x←10000⍴1 2\nx[⌽⍳10000]←x\nx+←x\n(⌽x)←x\nx←,⍉100 100⍴x", "((⍳100)∘.×⍳100)+.×(⍳100)∘.×⍳100",
		strings.Repeat("{", 30) + "⍵" + strings.Repeat("}1", 30), "x←1 2 3⋄" + strings.Repeat("x[1]←2⋄", 150) + "x", strings.Repeat("-", 38) + "1 2", "1 2" + strings.Repeat("[1 2]", 37),
	} {
		for _, budget := range []int{0, 5, 100, 20000, impl.MaxBudget} {
			for _, fuel := range []int{0, 30, 5000, impl.MaxWork} {
				runAll(lines).within(budget).with(fuel).replies(t)
			}
		}
	}
}
