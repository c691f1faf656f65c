package tests

import (
	"testing"

	"loop.example/s02542/impl"
)

// TestArgumentsAreLiveUntilTheResultHasItsCells reckons by hand what is live when each new value takes its cells.
func TestArgumentsAreLiveUntilTheResultHasItsCells(t *testing.T) {
	wantCosts(t, "",
		costs{"1 2+3 4", 6, 0, 6}, costs{"-1 2", 4, 0, 4}, costs{"- -1 2", 6, 0, 4}, costs{"-⌽1 2", 4, 0, 4}, costs{"1+1 2+3 4", 8, 0, 6}, costs{"(1 2+3 4)+1", 8, 0, 6}, costs{"(1 2+3 4)+5 6", 10, 0, 8}, costs{"1 2+3 4+5 6", 10, 0, 6}, costs{"(1 2+3 4)+5 6+7 8", 14, 0, 8},
		costs{"1 2∘.+3 4 5", 5 + 6, 0, 11}, costs{"1 2+.×3 4", 4, 0, 4}, costs{"+/1 2 3", 3, 0, 3}, costs{`+\1 2 3`, 6, 0, 6}, costs{"1 2 3,4 5", 10, 0, 10}, costs{"3 2 1⍳1 2", 7, 0, 7}, costs{"2 3⍴⍳6", 2, 0, 2}, costs{"2 3⍴⍳5", 8, 0, 8}, costs{"⍋3 1 2", 6, 0, 6}, costs{"2 0 1/7 8 9", 9, 0, 9}, costs{"2 2⊤5 6 7", 5 + 6, 0, 11},
		costs{"x←1 2+3 4", 6, 2, 6}, costs{"x←⌽1 2 3", 3, 3, 3}, costs{"x←2↑1 2 3 4", 4, 4, 4}, costs{"x←↑1 2 3 4", 4, 0, 4}, costs{"x←(1 2 3)[2]", 3, 0, 3},
	)
	wantCosts(t, isX,
		costs{"x+x", 6, 6, 12}, costs{"x+1 2 3 4 5 6", 12, 6, 18}, costs{"x+⌽x", 6, 6, 12}, costs{"x+-x", 12, 6, 18}, costs{"(-x)+x", 12, 6, 18}, costs{"(-x)+-x", 18, 6, 24}, costs{"-- -x", 18, 6, 18}, costs{"y←-x", 6, 12, 12}, costs{"x←-x", 6, 6, 12}, costs{"x←- -x", 12, 6, 18},
		// An argument that is one element of a great value leaves that be.
		costs{"x+↑1 2 3 4 5 6 7 8", 8 + 6, 6, 14}, costs{"x++/1 2 3 4 5 6 7 8", 8 + 6, 6, 14}, costs{"(-x)+≢-x", 18, 6, 18},
	)
}

func TestAnIndexsArrayAndPartsAreLive(t *testing.T) {
	wantCosts(t, "",
		costs{"1 2 3[2 1]", 5, 0, 5}, costs{"1 2 3[2 1 3]", 9, 0, 9}, costs{"1 2 3[2]", 3, 0, 3}, costs{"(2 3⍴1 2 3 4 5 6)[1 2;3 1]", 2 + 2 + 6 + 2, 0, 12}, costs{"(2 3⍴⍳6)[2 1;3 1 2]", 2 + 3 + 2 + 6, 0, 11}, costs{"1 2 3[1 2 2+0]", 3 + 3 + 3 + 3, 0, 9}, costs{"(1 2 3+1)[⍳2]", 6, 0, 6}, costs{"(1 2 3+1)[2 1]", 8, 0, 8}, costs{"(1 2 3+1)[2 1 1]", 3 + 3 + 3 + 3, 0, 9},
		costs{"x←1 2 3[2 1]", 5, 3, 5}, costs{"x←1 2 3[1 1 2]", 9, 3, 9}, costs{"1 2 3[2 1][2 1]", 7, 0, 7}, costs{"1 2 3[1 1 2][1 2]", 2 + 3 + 3 + 3, 0, 11},
	)
	wantCosts(t, isX, costs{"x[x]", 0, 6, 0}, costs{"x[2 1 3]", 6, 6, 12}, costs{"x[-¯1 ¯2 ¯3]", 6, 6, 12}, costs{"x[2 1 3]+x[3 1 2]", 15, 6, 6 + 3 + 3 + 3})
}

func TestBAndPartsOfAStmtAreLiveUntilItIsDone(t *testing.T) {
	wantCosts(t, isX+"\ny←x",
		// The parts and b, and then x anew, while y and x look at what they looked at.
		costs{"x[1 2]←3 4", 2 + 2 + 6, 12, 16}, costs{"x[1 2]←3", 2 + 6, 12, 14}, costs{"x[1]←3", 6, 12, 12}, costs{"x[1 4 2]←3 4 5", 3 + 3 + 6, 12, 18}, costs{"x+←1 2 3 4 5 6", 6 + 6, 12, 18}, costs{"x+←1", 6, 12, 12}, costs{"(2↑x)←3 4", 2 + 6, 12, 14}, costs{"x[1 2+2]←3 4", 2 + 2 + 2 + 6, 12, 16}, costs{"x[1 2]←3 4+1", 2 + 2 + 2 + 6, 12, 16},
		// Within a selection, parts and first arguments only until the numbers are picked.
		costs{"(x[1 2])←3 4", 2 + 2 + 6, 12, 14}, costs{"(x[1 4 2])←0", 3 + 6, 12, 12}, costs{"(x[2 1 3 4][2 1 3])←0", 7 + 6, 12, 13}, costs{"((⌽x)[1 4 2])←0", 3 + 6, 12, 12},
	)
	// Where it is written in place, the parts and b are all.
	wantCosts(t, isX,
		costs{"x[1 2]←3 4", 4, 6, 10}, costs{"x[1 4 2]←3 4 5", 6, 6, 12}, costs{"x+←1 2 3 4 5 6", 6, 6, 12}, costs{"(x[1 2])←3 4", 4, 6, 10}, costs{"(x[2 1 3 4][2 1 3])←0", 7, 6, 13}, costs{"(x[2 1 3][2 1])←3 4", 7, 6, 13}, costs{"x[1 2+2]←3 4", 6, 6, 12}, costs{"(2↑1 2[1]⌽x)←5 6", 4, 6, 10},
	)
	wantCosts(t, isX+"\nn←2 3⍴x\nx←0", costs{"(2 1⍉n)←3 2⍴⍳6", 4, 6, 8}, costs{"(1 2↑2 1⍉n)←9", 4, 6, 8}, costs{"(1 ¯1↓n)←1 2⍴7 8", 2 + 2 + 2, 6, 10}, costs{"n[1 2;3 1]←0", 4, 6, 10}, costs{"(n[1 2;3 1])←0", 4, 6, 10}, costs{"((2 1⍉n)[1 3;1 2])←0", 6, 6, 12}, costs{"(,⍉n)←9", 0, 6, 0}, costs{"((,⍉n)[⌽⍳6])←⍳6", 0, 6, 0})
	// A name is new from nothing but itself: what it had stays live until it has the new one.
	wantCosts(t, "x←⍳6", costs{"x[1]←9", 6, 6, 6}, costs{"x[1 2]←9", 2 + 6, 6, 8}, costs{"x+←1 2 3 4 5 6", 12, 6, 12}, costs{"(x[1 2 4])←0", 3 + 6, 6, 6})
	wantCosts(t, "x←5", costs{"x+←1 2 3", 6, 3, 6}, costs{"x←x+1 2 3", 6, 3, 6})
}

func TestNamesThatTheLineGivesAnotherValue(t *testing.T) {
	wantCosts(t, "x←1 2 3",
		// One stmt: the name looks at what it had until it is done.
		costs{"x←4 5 6", 3, 3, 6}, costs{"x←4 5", 2, 2, 5}, costs{"x←x+1", 3, 3, 6}, costs{"x←⌽x", 0, 3, 0}, costs{"x←5", 0, 0, 0}, costs{"x←x,x", 6, 6, 9},
		// Several: all names as they were before the line look until it is done.
		costs{"x←5⋄x←4 5 6", 3, 3, 6}, costs{"x←5⋄y←4 5 6⋄z←7 8", 5, 5, 8}, costs{"x←4 5 6⋄x←7 8 9", 6, 3, 9}, costs{"x←4 5 6⋄x←0⋄x←7 8 9", 6, 3, 6}, costs{"x←x+1⋄x←x+1", 6, 3, 9}, costs{"4 5⋄6 7⋄8 9", 6, 3, 5}, costs{"x+1⋄x+2⋄x+3", 9, 3, 6}, costs{"y←4 5⋄y←6 7⋄y←0", 4, 3, 7},
		costs{"x←0⋄{x←1 2 3⋄x+1}0", 6, 0, 9}, costs{"x←4 5⋄x[1]←6⋄x←x,7", 2 + 3, 3, 8},
	)
	// What the line itself made, and looks at no more, is not live.
	wantCosts(t, "", costs{"x←1 2 3⋄x←0⋄x←4 5 6", 6, 3, 3}, costs{"x←1 2 3⋄x←4 5 6", 6, 3, 6}, costs{"1 2 3⋄4 5 6", 6, 0, 3}, costs{"x←1 2 3⋄y←x⋄x←0⋄z←4 5 6", 6, 6, 6}, costs{"x←1 2 3⋄y←x⋄x←0⋄y←0⋄z←4 5 6", 6, 3, 3})
}

func TestNamesOfCallsUnderWayAreLive(t *testing.T) {
	wantCosts(t, isX,
		costs{"{y←1 2 3⋄4 5}0", 5, 6, 11}, costs{"{y←1 2 3⋄y←0⋄4 5}0", 5, 6, 9}, costs{"{y←1 2 3⋄y←4 5 6⋄y}0", 6, 6, 12}, costs{"{y←1 2 3⋄z←4 5⋄6 7}0", 7, 6, 13}, costs{"{4 5}1 2 3", 5, 6, 11}, costs{"1 2 3{4 5}6 7", 7, 6, 13}, costs{"1 2 3{⍺}6 7", 5, 6, 11}, costs{"{y←1 2 3⋄{4 5}0}0", 5, 6, 11}, costs{"{y←1 2 3⋄{z←4 5⋄6 7}8 9}0", 9, 6, 15}, costs{"{y←1 2 3⋄z←{4 5}0⋄z+1}0", 7, 6, 13},
		// A call that is done looks no more.
		costs{"({y←1 2 3⋄0}0)+4 5", 3 + 2 + 2, 6, 11}, costs{"4 5+{y←1 2 3⋄0}0", 3 + 2 + 2, 6, 10}, costs{"{y←1 2 3⋄0}0⋄4 5 6 7", 7, 6, 10}, costs{"{z←{y←1 2 3⋄0}0⋄4 5}0", 5, 6, 9}, costs{"{z←{y←1 2 3⋄y[1]}0⋄4 5 6 7}0", 7, 6, 10}, costs{"{z←⍵⋄{y←⍵⋄⍵[1]}1 2⋄0}3 4", 4, 6, 10},
		// A guard's test is done with when it is known.
		costs{"{(↑1 0 0):5 6⋄0}0", 5, 6, 9}, costs{"{(1∊4 5 6):0⋄7 8 9 1}0", 7, 6, 10},
	)
	// Each call of a function that calls itself has its own.
	run("F←{⍵=0:0⋄y←1 2 3⋄∇⍵-1}", "F 4").within(12).fails(t, 0)
	run("F←{⍵=0:0⋄y←1 2 3⋄∇⍵-1}", "F 5").within(12).fails(t, impl.ErrFull)
	run("F←{⍵=0:0⋄y←1 2 3⋄y←0⋄∇⍵-1}", "F 40").within(3).fails(t, 0)
	run("F←{⍵=0:0⋄y←1 2 3⋄z←∇⍵-1⋄z}", "F 4⋄F 4⋄F 4").within(12).fails(t, 0)
	run("F←{0=≢⍵:0⋄∇1↓⍵}", "F 1 2 3 4 5").within(5).fails(t, 0)
	run("F←{1=≢⍵:0⋄∇1+1↓⍵}", "F 1 2 3 4 5").within(5+4+3+2).fails(t, 0)
	run("F←{1=≢⍵:0⋄∇1+1↓⍵}", "F 1 2 3 4 5").within(5+4+3+2-1).fails(t, impl.ErrFull)
}
