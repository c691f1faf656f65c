package tests

import (
	"testing"

	"loop.example/s02542/impl"
)

// changesOf are assignments of the kinds 21, 22 and 23 to a part of a vector x of six numbers, none of which has new values but x's own.
var changesOf = []string{
	"x[2]←9", "x[]←0", "x[⍬]←7", "x[⍳3]←0", "x[⍳3]←⍳3", "x[3⍴2]←⍳3", "x[6]←x[1]", "x[x[1]]←x[2]",
	"x+←1", "x-←⍳6", "x×←0", "x⌊←3", "x=←4", "x*←2", "x|←7",
	"(⌽x)←0", "(⌽x)←⍳6", "(2↑x)←0", "(¯2↑x)←⍳2", "(2↓x)←⍳4", "(1⌽x)←⍳6", "(1⊖x)←⍳6", "(,x)←9", "(⍉x)←⍳6", "(x[2])←5", "(x[⍳2])←⍳2", "((⌽x)[1])←5", "(3↑1⌽x)←⍳3", "(9↓x)←0", "(2⌽3↑x)←⍳3", "(1⍉x)←4", "(0↑x)←⍬",
}

// TestWrittenInPlace is promise 14 as far as it speaks of assignments: they take no cells, whatever else is live.
func TestWrittenInPlace(t *testing.T) {
	for _, before := range []string{
		isX, "x←0+⍳6", "x←1 2 3,4 5 6", "y←1 2 3\n" + isX, isX + "\ny←⍳6\nz←x+0",
		// It may be a view, of all of the buffer or not.
		isX + "\nx←⌽x", isX + "\nx←2↓⌽0 0,x[⍳6]", "x←⍳12\nx+←0\nx←x[2×⍳6]", "x←⍳12\nx+←0\nx←⌽x[2×⍳6]", "x←3 6⍴0 1\nx+←0\nx←x[2;]", "x←6 3⍴0 1\nx+←0\nx←x[;2]", isX + "\nx←⍉⊖⍉⌽x",
		// Others that looked look no more.
		isX + "\ny←x\ny←0", isX + "\ny←⌽x\nz←y\ny←x[1]\nz←1 2", isX + "\ny←{x←⍵⋄x[1]}x", isX + "\nx", isX + "\nx+x", isX + "\nx+1 2", isX + "\nx←x", isX + "\nx←x⋄x←x⋄y←x⋄y←0", "y←1 2 3 4 5 6\nx←y\ny←5",
		// It was new a line ago.
		"x←⍳6\nx[1]←1", "x←6⍴0\nx+←1", "x←⍳6\n(⌽x)←1",
	} {
		live := runAll(before).last(t).Live
		for _, line := range changesOf {
			if code := runAll(before).then(line).last(t).Code; code == impl.ErrIndex || code == impl.ErrLimit {
				// What is in x may be no number of an element, or grow too great.
				continue
			}
			wantCosts(t, before, costs{line, 0, live, 0})
		}
	}
}

// TestWrittenAnew has all that may look at the buffer of x beside it.
func TestWrittenAnew(t *testing.T) {
	for _, before := range []string{
		isX + "\ny←x", isX + "\ny←⌽x", isX + "\ny←2↑x", isX + "\ny←x[⍳2]", isX + "\ny←x[2⍴1]", isX + "\ny←,x", isX + "\ny←{⍵}x", isX + "\ny←x\nz←⌽y\ny←0", isX + "\ny←2↓x\nx←⌽x", "y←1 2 3 4 5 6\nx←y", "y←0 1 2 3 4 5 6\nx←1↓y", isX + "\ny←⌽2↓⌽x", isX + "\nx←⌽x\ny←⌽x",
	} {
		live := runAll(before).last(t).Live
		for _, line := range changesOf {
			if runAll(before).then(line).last(t).Code != 0 {
				continue
			}
			wantCosts(t, before, costs{line, 6, live + 6, live + 6})
			// It has a buffer of its own then.
			wantCosts(t, before+"\n"+line, costs{"x[2]←9", 0, live + 6, 0}, costs{"x+←1", 0, live + 6, 0}, costs{"(⌽x)←0", 0, live + 6, 0})
		}
	}
}

func TestPlainValuesAreWrittenAnew(t *testing.T) {
	for _, before := range []string{"x←⍳6", "x←6⍴1", "x←⌽⍳6", "x←2↓⍳8", "x←(⍳9)[6⍴2]", "x←⍳6\ny←x"} {
		for _, line := range changesOf {
			if runAll(before).then(line).last(t).Code == 0 {
				wantCosts(t, before, costs{line, 6, 6, 6})
			}
		}
	}
	// So are those whose shape becomes another one, as they have one element.
	wantCosts(t, "x←5", costs{"x+←⍳3", 3, 3, 3}, costs{"x+←1 1⍴7", 2, 0, 2}, costs{"x+←7 8 9", 6, 3, 6}, costs{"x+←2 2⍴⍳4", 6, 4, 4})
	wantCosts(t, "x←,5", costs{"x+←⍳3", 3, 3, 3}, costs{"x+←1 1⍴7", 2, 0, 2}, costs{"x+←⍬", 0, 0, 0})
	wantCosts(t, "x←1 2 3\nx←x[2]", costs{"x+←⍳3", 3, 3, 3})
	// With one element or none they stay plain.
	for _, before := range []string{"x←5", "x←,5", "x←1 1⍴5", "x←⍬", "x←''", "x←0 3⍴1", "x←5\ny←x", "x←'a'", "x←1 2 3\nx←x[2]"} {
		for _, line := range []string{"x+←1", "x=←'a'", "(⌽x)←7", "(,x)←7", "x[]←4", "x[1]←4", "x[;1]←4", "(,x)←'q'", "x←x", "x×←x"} {
			if s := runAll(before).then(line); s.last(t).Code == 0 {
				wantCosts(t, before, costs{line, 0, 0, 0})
			}
		}
	}
}

// TestPlacesThatComeTwice has a name that alone looks at its buffer, at one place several times.
func TestPlacesThatComeTwice(t *testing.T) {
	for _, change := range []string{"x[6⍴1]", "x[6⍴6]", "(2 3⍴x)[2⍴2;]", "(3 2⍴x)[;2⍴1]", "⌽x[6⍴2]", "2↓(1↓x)[8⍴2]"} {
		before := isX + "\nx←" + change
		for _, line := range []string{"x+←1", "(⌽x)←0", "(,x)←3", "x=←2"} {
			got, m := runAll(before).then(line).watched(t)
			last := got[len(got)-1]
			if last.Code != 0 || last.Cells != 6 || last.Live != 6 || m.anew != 1 {
				t.Errorf("%s: %s", runAll(before).then(line), ranName(last))
			}
			live := got[1].Live
			wantNeed(t, runAll(before), line, live+6)
		}
	}
	wantCosts(t, isX+"\nx←x[6⍴2]", costs{"x[3]←9", 6, 6, 12}, costs{"x[⍬]←9", 6, 6, 12})
	runAll(isX+"\nx←x[3⍴2]").then("x[2]←9", "x").shows(t, "2 9 2\n")
	runAll(isX+"\nx←x[3⍴2]").then("x+←⍳3", "x").shows(t, "3 4 5\n")
	// Of two elements too, and not of one.
	wantCosts(t, isX+"\nx←x[2⍴2]", costs{"x[1]←9", 2, 2, 8})
	wantCosts(t, isX+"\nx←x[1⍴2]", costs{"x[1]←9", 0, 0, 0})
}

// TestWhatAStmtNeedsLooksToo has b and parts that lie in the buffer of x.
func TestWhatAStmtNeedsLooksToo(t *testing.T) {
	wantCosts(t, isX,
		// b, by itself or as a view.
		costs{"x[]←x", 6, 6, 12}, costs{"x[]←⌽x", 6, 6, 12}, costs{"x[⍳2]←2↑x", 6, 6, 12}, costs{"x[⍳2]←x[⍳2]", 6, 6, 12}, costs{"x+←x", 6, 6, 12}, costs{"x-←⌽x", 6, 6, 12}, costs{"(⌽x)←x", 6, 6, 12}, costs{"(2↑x)←¯2↑x", 6, 6, 12}, costs{"x[]←{⍵}x", 6, 6, 12}, costs{"x+←+x", 6, 6, 12},
		// b of one element, or new, does not look.
		costs{"x[]←x[3]", 0, 6, 0}, costs{"x+←+/x", 0, 6, 0}, costs{"x[]←x+0", 6, 6, 12}, costs{"x+←x+0", 6, 6, 12}, costs{"(⌽x)←-x", 6, 6, 12}, costs{"x[]←1↑x", 0, 6, 0},
		// Parts look until an assignment to parts is done.
		costs{"x[x]←0", 6, 6, 12}, costs{"x[⌽x]←0", 6, 6, 12}, costs{"x[2↑x]←0", 6, 6, 12}, costs{"x[1↑x]←0", 0, 6, 0}, costs{"x[x+0]←0", 6, 6, 12}, costs{"x[x]←x", 6, 6, 12},
		// Within a selection they look only until the numbers are picked.
		costs{"(x[x])←0", 0, 6, 0}, costs{"(x[⌽x])←⍳6", 0, 6, 0}, costs{"((1↑x)⌽x)←0", 0, 6, 0}, costs{"(x[x][2↑x])←0", 0, 6, 0}, costs{"(x[x])←x", 6, 6, 12},
	)
	wantCosts(t, isX+"\ny←⌽1 2 3 4 5 6", costs{"x[y]←y", 0, 12, 0}, costs{"x+←y", 0, 12, 0}, costs{"(x[y])←y", 0, 12, 0}, costs{"y[x]←x", 0, 12, 0})
	for line, want := range map[string]string{"x[]←⌽x": "6 5 4 3 2 1\n", "x[⍳3]←¯3↑x": "4 5 6 4 5 6\n", "x[1↓x]←¯1↓x": "1 1 2 3 4 5\n", "x+←⌽x": "7 7 7 7 7 7\n", "(⌽x)←x": "6 5 4 3 2 1\n", "(1↓x)←¯1↓x": "1 1 2 3 4 5\n", "(x[⌽x])←x": "6 5 4 3 2 1\n", "x[x]←⌽x": "6 5 4 3 2 1\n", "(x[x])←0": "0 0 0 0 0 0\n"} {
		runAll(isX).then(line, "x").shows(t, want)
	}
}

// TestWhatACallIsGivenLooks has names of calls under way whose buffers ⍺, ⍵, the workspace, or other calls look at.
func TestWhatACallIsGivenLooks(t *testing.T) {
	wantCosts(t, isX,
		// ⍵ and ⍺ look, also at what nobody else does, and also when the call names them no more.
		costs{"{y←⍵⋄y[1]←0⋄y}x", 6, 6, 12}, costs{"{y←⍵⋄y+←0⋄y}x", 6, 6, 12}, costs{"{y←⍵⋄(⌽y)←0⋄y}x", 6, 6, 12}, costs{"{y←⍵⋄y[1]←0⋄y}1 2 3", 6, 6, 12}, costs{"1 2 3{y←⍺⋄y[1]←0⋄y}0", 6, 6, 12}, costs{"{y←⌽⍵⋄y[1]←0⋄y}1 2 3", 6, 6, 12}, costs{"1 2{y←⍵⋄y[1]←0⋄y}3 4", 6, 6, 12}, costs{"{x←⍵⋄x[1]←0⋄x}x", 6, 6, 12}, costs{"x←{x←⍵⋄x[1]←0⋄x}x", 6, 6, 12},
		// A second time it is the call's own.
		costs{"{y←⍵⋄y[1]←0⋄y[2]←0⋄y+←1⋄y}x", 6, 6, 12}, costs{"{y←⍵+0⋄y[1]←0⋄y}x", 6, 6, 12}, costs{"{y←1 2 3⋄y[1]←0⋄y}0", 3, 6, 9}, costs{"{y←1 2 3⋄z←y⋄y[1]←0⋄y}0", 6, 6, 12}, costs{"{y←1 2 3⋄z←y⋄z←0⋄y[1]←0⋄y}0", 3, 6, 9}, costs{"{y←1 2 3⋄y[]←y⋄y}0", 6, 6, 12},
		// The workspace looks.
		costs{"{y←x⋄y[1]←0⋄y}0", 6, 6, 12}, costs{"{x←x⋄x[1]←0⋄x}0", 6, 6, 12}, costs{"{x←x+0⋄x[1]←0⋄x}0", 6, 6, 12},
		// What comes back from a call is the caller's own, but for what still looks.
		costs{"{y←{1 2 3}0⋄y[1]←0⋄y}0", 3, 6, 9}, costs{"{y←{z←1 2 3⋄z}0⋄y[1]←0⋄y}0", 3, 6, 9}, costs{"{y←{⍵}1 2 3⋄y[1]←0⋄y}0", 3, 6, 9}, costs{"{y←{⍵}⍵⋄y[1]←0⋄y}1 2 3", 6, 6, 12}, costs{"y←{z←1 2 3⋄z[1]←0⋄z}0", 3, 9, 9}, costs{"y←{⍵}{⍵}1 2 3", 3, 9, 9},
		// A call around looks, by its names and by what it was given.
		costs{"{y←⍵⋄{z←⍵⋄z[1]←0⋄z}5 6}1 2 3", 3 + 2 + 2, 6, 6 + 3 + 2 + 2}, costs{"{y←1 2 3⋄{z←⍵⋄z[1]←0⋄z}y}0", 3 + 3, 6, 12}, costs{"{y←1 2 3⋄z←{⍵[1]}y⋄y[1]←0⋄y}0", 3, 6, 9},
		// A value that a node around needs.
		costs{"x+{y←x⋄y[1]←0⋄y}0", 12, 6, 18}, costs{"({y←x⋄y[1]←0⋄y}0)+x", 12, 6, 18}, costs{"({y←1 2 3⋄y[1]←0⋄y}0)+1 2 3", 9, 6, 15}, costs{"x[{y←1 2 3⋄y[1]←1⋄y}0]", 3, 6, 9}, costs{"x[{y←1 2 3⋄y[1]←2⋄y}0]", 3 + 3, 6, 12},
	)
	runAll(isX).then("{y←⍵⋄y[1]←0⋄y,⍵}x").shows(t, "0 2 3 4 5 6 1 2 3 4 5 6\n")
	runAll(isX).then("{y←⍵⋄y[1]←0⋄y,⍵}1 2").shows(t, "0 2 1 2\n")
	runAll(isX).then("x{y←⍵⋄y[1]←0⋄⍺,y}x").shows(t, "1 2 3 4 5 6 0 2 3 4 5 6\n")
	// The numbers of a function are the same at each call, though they are written over in place.
	runAll("F←{y←1 2 3⋄y[1]+←⍵⋄y}").fails(t, impl.ErrSyntax)
	runAll("F←{y←1 2 3⋄y+←⍵⋄z←'abc'⋄z[1]←'q'⋄y}\nF 1\nF 1").then("F 1⋄(F 1)+F 2⋄F 1").shows(t, "2 3 4\n5 7 9\n2 3 4\n")
	runAll("F←{y←1 2 3⋄y[1]←y[1]+⍵⋄⍵=0:y⋄y,∇⍵-1}\nF 2").then("F 2").shows(t, "3 2 3 2 2 3 1 2 3\n")
	runAll("F←{y←'abc'⋄y[2]←'z'⋄y}\nF 0⋄G←{y←'abc'⋄y}\nG 0").then("F 0⋄G 0⋄'abc'").shows(t, "azc\nabc\nabc\n")
}

// TestLinesOfSeveralStmts has names as they were before the line look too, whatever becomes of them in it.
func TestLinesOfSeveralStmts(t *testing.T) {
	wantCosts(t, isX,
		costs{"x[1]←9⋄0", 6, 6, 12}, costs{"0⋄x[1]←9", 6, 6, 12}, costs{"x+←1⋄0", 6, 6, 12}, costs{"(⌽x)←1⋄0", 6, 6, 12}, costs{"x[1]←9⋄x[2]←9", 6, 6, 12}, costs{"x[1]←9⋄x+←1⋄(⌽x)←0⋄x", 6, 6, 12}, costs{"x[1]←9⋄x←0", 6, 0, 12}, costs{"x←0⋄0", 0, 0, 0},
		costs{"y←x⋄y[1]←9", 6, 12, 12}, costs{"y←x⋄x←0⋄y[1]←9", 6, 6, 12}, costs{"y←x⋄x←0⋄y[1]←9⋄y[2]←9", 6, 6, 12}, costs{"y←1 2 3⋄y[1]←9", 3, 9, 9}, costs{"y←1 2 3⋄z←y⋄y[1]←9", 6, 12, 12}, costs{"y←1 2 3⋄z←y⋄z←0⋄y[1]←9", 3, 9, 9}, costs{"y←1 2 3⋄y[1]←9⋄y+←1", 3, 9, 9}, costs{"x←1 2 3⋄x[1]←9", 3, 3, 9}, costs{"x←⌽x⋄x[1]←9", 6, 6, 12}, costs{"F←{⍵}⋄x[1]←9", 6, 6, 12}, costs{"{y←1 2 3⋄y[1]←9⋄y}0⋄0", 3, 6, 9}, costs{"x←x⋄x[1]←9", 6, 6, 12},
		// One stmt is one, whatever stands in it.
		costs{"x[1]←{y←2⋄z←3⋄y+z}0", 0, 6, 0}, costs{"x[1]←9 ⍝ ⋄ 0", 0, 6, 0},
	)
	// What looked for the line's sake does not look behind it, with a code or without.
	for _, line := range []string{"x[1]←9⋄0", "0⋄0", "x[1]←9⋄1÷0", "y←x⋄x[1]←9⋄u", "x←0⋄x←⌽1 2 3⋄[", "x←0⋄u", "1÷0⋄0", "y←x⋄1 2[3]", "x[1]←9⋄y←x⋄z←y⋄{w←x⋄w[1]←9⋄u}0"} {
		wantCosts(t, isX+"\n"+line, costs{"x[2]←7", 0, 6, 0})
	}
}

// TestCharactersThatBecomeNumbers has an assignment in place that changes what kind of array a value is.
func TestCharactersThatBecomeNumbers(t *testing.T) {
	wantCosts(t, isC, costs{"c=←'a'", 0, 6, 0}, costs{"c≠←c[2]", 0, 6, 0}, costs{"c=←⍳6", 0, 6, 0}, costs{"c=←c", 6, 6, 12})
	runAll(isC).then("c=←'a'", "c", "c+←1", "c").shows(t, "2 1 1 1 1 1\n")
	runAll(isC).then("c←⌽c", "c=←'a'", "c[1]←7", "c").shows(t, "7 0 0 0 0 1\n")
	runAll(isC).then("c=←'a'⋄1÷0", "c").shows(t, "abcdef\n")
}

// TestInPlaceLiesWhereItLay has views of a buffer that are written into, and what they are made of later.
func TestInPlaceLiesWhereItLay(t *testing.T) {
	runAll("x←1 2 3 4 5 6\nx←⌽x\nx[1]←9\nx[⍳2]←7 8\nx+←1").then("x").shows(t, "8 9 5 4 3 2\n")
	runAll("x←1 2 3 4 5 6\nx←⌽x\nx[1]←9").then(",⌽x").shows(t, "1 2 3 4 5 9\n")
	runAll("x←2 3⍴1 2 3 4 5 6\nx←⍉x\nx[3;]←7 8\n(,x)←10×⍳6").then("x⋄⍉x").shows(t, "10 20\n30 40\n50 60\n10 30 50\n20 40 60\n")
	runAll("x←⍳12\nx+←0\nx←x[2×⍳6]\nx[2]←99\nx←⌽x").then("x").shows(t, "12 10 8 6 99 2\n")
	runAll("x←2 3⍴1 2 3 4 5 6\nx←⍉⌽x\nx[2 3;1]←0\n(⍉x)←⍉x+1\nx[;]←x").then("x").shows(t, "4 7\n1 6\n1 5\n")
	runAll("x←2 2 2⍴⍳8\nx+←0\nx←2 3 1⍉x\nx[1;2;]←9\n(,x)←⌽,x").then(",x").shows(t, "8 6 4 2 9 9 3 1\n")
	// The cells of a buffer of which a part is looked at stay live.
	wantCosts(t, isX+"\nx←2↑x", costs{"x[1]←9", 0, 6, 0}, costs{"x+←1", 0, 6, 0}, costs{"x←x+1", 2, 2, 8}, costs{"y←x", 0, 6, 0})
}
