package tests

import (
	"fmt"
	"strings"
	"testing"

	"loop.example/s02542/impl"
)

// Values that rows of the table are asked of: x a vector, m a matrix and c characters that lie in a buffer alone, all of 6 elements; p and q of 6 that are plain.
const (
	isX = "x←1 2 3 4 5 6"
	isM = "m←2 3⍴1 2 3 4 5 6"
	isC = "c←'abcdef'"
	isP = "p←⍳6"
	isQ = "q←2 3⍴7"
)

func TestNumbersAndTextsAreNew(t *testing.T) {
	wantCosts(t, isX,
		costs{"y←5", 0, 6, 0}, costs{"y←5 6", 2, 8, 8}, costs{"y←5 6 7", 3, 9, 9}, costs{"y←5 5 5 5", 4, 10, 10}, costs{"5", 0, 6, 0}, costs{"5 6", 2, 6, 8}, costs{"x←5", 0, 0, 0}, costs{"x←5 6", 2, 2, 8},
		costs{"y←''", 0, 6, 0}, costs{"y←'a'", 0, 6, 0}, costs{"y←''''", 0, 6, 0}, costs{"y←'ab'", 2, 8, 8}, costs{"y←'it''s'", 4, 10, 10}, costs{"'ab'", 2, 6, 8}, costs{"'⍝⍵'", 2, 6, 8},
	)
	wantCosts(t, "",
		costs{"y←" + strings.TrimSpace(strings.Repeat("7 ", 900)), 900, 900, 900}, costs{"'" + strings.Repeat("q", 1900) + "'", 1900, 0, 1900},
	)
}

func TestNumbersFrom1OnArePlain(t *testing.T) {
	wantCosts(t, isX,
		costs{"y←⍬", 0, 6, 0}, costs{"y←⍳0", 0, 6, 0}, costs{"y←⍳1", 0, 6, 0}, costs{"y←⍳2", 0, 6, 0}, costs{"y←⍳3", 0, 6, 0}, costs{"y←⍳10000", 0, 6, 0}, costs{"⍳7", 0, 6, 0}, costs{"x←⍳6", 0, 0, 0}, costs{"y←⍳1⍴3", 0, 6, 0},
		// Of two arguments it is another function.
		costs{"y←x⍳x", 6, 12, 12}, costs{"y←x⍳⍳4", 4, 10, 10}, costs{"y←x⍳3", 0, 6, 0},
	)
	// Plain values lie at the places 0, 1, .., so that they are the value where they are made longer lines of, and not where their places are out of order.
	wantCosts(t, "",
		costs{"y←,⍳6", 0, 0, 0}, costs{"y←4⍴⍳6", 0, 0, 0}, costs{"y←6⍴⍳6", 0, 0, 0}, costs{"y←7⍴⍳6", 7, 7, 7}, costs{"y←,⌽⍳6", 0, 0, 0}, costs{"y←,⍉2 3⍴⍳6", 8, 6, 6}, costs{"y←,⌽2 3⍴⍳6", 8, 6, 6}, costs{"y←,⊖⌽2 3⍴⍳6", 2, 0, 2},
	)
}

func TestNamesAndArgumentsAreTheValueItself(t *testing.T) {
	for _, before := range []string{isX, isM, isC, isX + "\nx←⌽x"} {
		name := strings.Split(before, "←")[0]
		for _, expr := range []string{"x", "(x)", "{⍵}x", "x{⍺}0", "0{⍵}x", "x{⍺}x", "{x←⍵⋄x}x", "{y←⍵⋄x←y⋄x}x", "{⍵}{⍵}x", "{0:1⋄⍵}x", "{1:⍵}x", "{x}0", "x{z←⍵⋄⍺}5"} {
			expr = strings.ReplaceAll(expr, "x", name)
			wantCosts(t, before, costs{"y←" + expr, 0, 6, 0}, costs{expr, 0, 6, 0}, costs{name + "←" + expr, 0, 6, 0})
		}
	}
	for _, before := range []string{isP, isQ} {
		name := strings.Split(before, "←")[0]
		for _, expr := range []string{"x", "{⍵}x", "x{⍺}0", "+x", "{+⍵}x"} {
			expr = strings.ReplaceAll(expr, "x", name)
			wantCosts(t, before, costs{"y←" + expr, 0, 0, 0})
		}
	}
	wantCosts(t, isX, costs{"y←+x", 0, 6, 0}, costs{"y←++x", 0, 6, 0}, costs{"x←+x", 0, 6, 0}, costs{"y←+5 6", 2, 8, 8}, costs{"y←+5", 0, 6, 0}, costs{"y←x+0", 6, 12, 12}, costs{"y←0+x", 6, 12, 12})
	runAll(isC).then("+c").fails(t, impl.ErrDomain)
}

// TestTheSameBufferIsLiveOnce has many names that look at one.
func TestTheSameBufferIsLiveOnce(t *testing.T) {
	wantCosts(t, isX+"\ny←x\nz←⌽y\nu←2↑z", costs{"v←x", 0, 6, 0}, costs{"x←0", 0, 6, 0}, costs{"x←0⋄y←0⋄z←0", 0, 6, 0}, costs{"x←0⋄y←0⋄z←0⋄u←0", 0, 0, 0}, costs{"u←1↑z", 0, 6, 0}, costs{"x←u", 0, 6, 0})
	wantCosts(t, isX+"\ny←1 2 3", costs{"x←y", 0, 3, 0}, costs{"y←x", 0, 6, 0}, costs{"x←0", 0, 3, 0}, costs{"y←0", 0, 6, 0}, costs{"z←x⋄x←y⋄y←z", 0, 9, 0})
}

func TestTurningAndCuttingChangeThePlaces(t *testing.T) {
	wantCosts(t, isX,
		costs{"y←⌽x", 0, 6, 0}, costs{"y←⊖x", 0, 6, 0}, costs{"y←⍉x", 0, 6, 0}, costs{"y←1⍉x", 0, 6, 0}, costs{"⌽x", 0, 6, 0}, costs{"x←⌽x", 0, 6, 0},
		costs{"y←0↓x", 0, 6, 0}, costs{"y←2↓x", 0, 6, 0}, costs{"y←¯2↓x", 0, 6, 0}, costs{"y←4↓x", 0, 6, 0}, costs{"y←5↓x", 0, 6, 0}, costs{"y←6↓x", 0, 6, 0}, costs{"y←99↓x", 0, 6, 0}, costs{"y←¯99↓x", 0, 6, 0},
		costs{"y←⌽2↓⌽1↓x", 0, 6, 0}, costs{"y←⌽5 6", 2, 8, 8}, costs{"y←⌽5", 0, 6, 0}, costs{"y←⍉''", 0, 6, 0}, costs{"y←2↓'abcd'", 4, 10, 10},
		// Turning along an axis by a number is another function.
		costs{"y←1⌽x", 6, 12, 12}, costs{"y←0⌽x", 6, 12, 12}, costs{"y←2⊖x", 6, 12, 12}, costs{"y←1⌽5", 0, 6, 0},
	)
	wantCosts(t, isM,
		costs{"y←⌽m", 0, 6, 0}, costs{"y←⊖m", 0, 6, 0}, costs{"y←⍉m", 0, 6, 0}, costs{"m←⍉m", 0, 6, 0}, costs{"y←2 1⍉m", 2, 6, 8}, costs{"y←1 2⍉m", 2, 6, 8}, costs{"y←0 1↓m", 2, 6, 8}, costs{"y←1 1↓m", 2, 6, 8}, costs{"y←¯1 1↓m", 2, 6, 8}, costs{"y←1 2↓m", 2, 6, 8}, costs{"y←5 0↓m", 2, 6, 8},
		costs{"y←⍉⌽⊖⍉m", 0, 6, 0},
	)
	wantCosts(t, isC, costs{"y←⌽c", 0, 6, 0}, costs{"y←⊖c", 0, 6, 0}, costs{"y←⍉c", 0, 6, 0}, costs{"y←1⍉c", 0, 6, 0}, costs{"y←2↓c", 0, 6, 0}, costs{"y←2↑c", 0, 6, 0}, costs{"y←c[1 3]", 2, 6, 8}, costs{"y←,c", 0, 6, 0}, costs{"y←3⍴c", 0, 6, 0})
	for _, before := range []string{isP, isQ} {
		name := strings.Split(before, "←")[0]
		wantCosts(t, before, costs{"y←⌽" + name, 0, 0, 0}, costs{"y←⊖" + name, 0, 0, 0}, costs{"y←⍉" + name, 0, 0, 0})
	}
	wantCosts(t, isP, costs{"y←2↓p", 0, 0, 0}, costs{"y←1⍉p", 0, 0, 0}, costs{"y←2↑p", 0, 0, 0}, costs{"y←7↑p", 7, 7, 7}, costs{"y←1⌽p", 6, 6, 6})
	wantCosts(t, isQ, costs{"y←1⌽q", 6, 6, 6})
}

func TestTakeWithAndWithoutAFill(t *testing.T) {
	wantCosts(t, isX,
		costs{"y←0↑x", 0, 6, 0}, costs{"y←1↑x", 0, 6, 0}, costs{"y←2↑x", 0, 6, 0}, costs{"y←6↑x", 0, 6, 0}, costs{"y←¯1↑x", 0, 6, 0}, costs{"y←¯2↑x", 0, 6, 0}, costs{"y←¯6↑x", 0, 6, 0}, costs{"y←7↑x", 7, 13, 13}, costs{"y←¯7↑x", 7, 13, 13}, costs{"x←7↑x", 7, 7, 13}, costs{"y←10000↑x", 10000, 10006, 10006},
		costs{"y←2↑5", 2, 8, 8}, costs{"y←1↑5", 0, 6, 0}, costs{"y←1↑⍬", 0, 6, 0}, costs{"y←2↑⍬", 2, 8, 8}, costs{"y←2↑''", 2, 8, 8}, costs{"y←0↑5", 0, 6, 0}, costs{"y←↑x", 0, 6, 0}, costs{"y←↑⍬", 0, 6, 0}, costs{"y←⍬↑5", 0, 6, 0}, costs{"y←4↑5 6", 6, 10, 12},
		costs{"y←5↑2↓x", 5, 11, 11}, costs{"y←4↑2↓x", 0, 6, 0},
	)
	wantCosts(t, isX+"\nn←2 3⍴x\nk←2 2⋄j←0 9",
		costs{"y←k↑n", 0, 10, 0}, costs{"y←(-k)↑n", 2, 10, 12}, costs{"y←(k+0 1)↑n", 4, 10, 14}, costs{"y←(k+1)↑n", 2 + 9, 19, 21}, costs{"y←(k+0 2)↑n", 4 + 8, 18, 20}, costs{"y←(-k+1)↑n", 4 + 9, 19, 21}, costs{"y←j↑n", 0, 10, 0}, costs{"y←(⌽j)↑n", 0, 10, 0},
	)
}

func TestLinesOfElements(t *testing.T) {
	wantCosts(t, isX, costs{"y←,x", 0, 6, 0}, costs{"y←∊x", 0, 6, 0}, costs{"y←,⌽x", 0, 6, 0}, costs{"y←,x[1 3 5]", 3, 6, 9}, costs{"y←∊x[5 3 1]", 3, 6, 9}, costs{"y←,x[1 1 1]", 3, 6, 9}, costs{"y←,5", 0, 6, 0}, costs{"y←,⍬", 0, 6, 0}, costs{"y←,5 6", 2, 8, 8}, costs{"y←,,x", 0, 6, 0}, costs{"y←x,⍬", 6, 12, 12}, costs{"y←x,x", 12, 18, 18}, costs{"y←1,2", 2, 8, 8}, costs{"y←⍬,1", 0, 6, 0}, costs{"y←x∊x", 6, 12, 12}, costs{"y←3∊x", 0, 6, 0})
	// By what is done to a matrix, whether its places have the same distance everywhere.
	for _, c := range []struct {
		change string
		isEven bool
	}{
		{"n", true}, {"⌽n", false}, {"⊖n", false}, {"⍉n", false}, {"⌽⊖n", true}, {"⍉⌽n", false}, {"⍉⍉n", true}, {"n[;2]", true}, {"n[2;]", true}, {"⌽n[2;]", true}, {"n[;1 2]", false}, {"n[;3 2 1]", false}, {"n[2 1;]", false}, {"n[2 1;3 2 1]", true}, {"n[;1 3]", false}, {"n[1 1;]", false}, {"n[1 1;1 1]", true}, {"n[;2 2]", false}, {"n[1 2;1 1 1]", false}, {"n[,1;]", true}, {"n[;,2]", true}, {"0 1↓n", false}, {"1 0↓n", true}, {"2 1↑n", true}, {"1 2↑n", true}, {"2 2↑n", false},
	} {
		base := isX + "\nn←2 3⍴x\ny←" + c.change
		count := len(runCount(t, base))
		for _, sign := range []string{",", "∊"} {
			live := runAll(base).last(t).Live
			if c.isEven {
				wantCosts(t, base, costs{"z←" + sign + "y", 0, live, 0})
			} else {
				wantCosts(t, base, costs{"z←" + sign + "y", count, live + count, live + count})
			}
		}
		// And reshaped, to fewer, as many, and more elements.
		for _, length := range []int{2, count - 1, count, count + 1} {
			live := runAll(base).last(t).Live
			line := fmt.Sprintf("z←%d⍴y", length)
			if c.isEven && length <= count || length == 1 {
				wantCosts(t, base, costs{line, 0, live, 0})
			} else if length > 1 {
				wantCosts(t, base, costs{line, length, live + length, live + length})
			}
		}
	}
}

// runCount is the elements of y behind lines, as numbers from 1 on.
func runCount(t *testing.T, lines string) []int {
	t.Helper()
	_, m := runAll(lines).watched(t)
	return numbersFrom0(len(m.grounds[0].arrays["y"].Data))
}

func TestReshaping(t *testing.T) {
	wantCosts(t, isX,
		// Of one element: plain, whatever the shape.
		costs{"y←6⍴5", 0, 6, 0}, costs{"y←10000⍴'a'", 0, 6, 0}, costs{"y←2⍴x[3]", 0, 6, 0}, costs{"y←2⍴1↑x", 0, 6, 0}, costs{"y←,2 3⍴5", 2, 6, 8}, costs{"y←,⍉2 3⍴5", 2, 6, 8}, costs{"y←4⍴6⍴5", 0, 6, 0}, costs{"y←7⍴6⍴5", 7, 13, 13}, costs{"y←⌽6⍴5", 0, 6, 0}, costs{"y←1⍴5", 0, 6, 0}, costs{"y←0⍴5", 0, 6, 0}, costs{"y←⍬⍴5", 0, 6, 0},
		// Of none: the fill is new.
		costs{"y←3⍴⍬", 3, 9, 9}, costs{"y←3⍴''", 3, 9, 9}, costs{"y←1⍴⍬", 0, 6, 0}, costs{"y←0⍴⍬", 0, 6, 0}, costs{"y←3⍴6↓x", 3, 9, 9},
		// Of several.
		costs{"y←0⍴x", 0, 6, 0}, costs{"y←1⍴x", 0, 6, 0}, costs{"y←⍬⍴x", 0, 6, 0}, costs{"y←2⍴x", 0, 6, 0}, costs{"y←5⍴x", 0, 6, 0}, costs{"y←6⍴x", 0, 6, 0}, costs{"y←7⍴x", 7, 13, 13}, costs{"y←12⍴x", 12, 18, 18}, costs{"x←7⍴x", 7, 7, 13}, costs{"y←4⍴⌽x", 0, 6, 0}, costs{"y←2 3⍴x", 2, 6, 8}, costs{"y←3 2⍴⌽x", 2, 6, 8}, costs{"y←2 2⍴x", 2, 6, 8}, costs{"y←2 4⍴x", 10, 14, 16}, costs{"y←2⍴x[1 3 5]", 3, 6, 9}, costs{"y←3⍴x[1 3]", 5, 9, 9}, costs{"y←2⍴x[1 2 4]", 6, 9, 12},
		costs{"y←⍴x", 0, 6, 0}, costs{"y←⍴2 3⍴x", 4, 8, 8},
	)
}

// TestReshapingPlacesFarApart has a distance that, times the elements of the shape, is more than a view's stride may be along an axis of one; there is no element along it.
func TestReshapingPlacesFarApart(t *testing.T) {
	base := "x←10000⍴5 6\ny←x[1+2501×⍳3]\ny←x[1+2501×¯1+⍳4]\nk←1 4\nj←1 1 4"
	wantCosts(t, base, costs{"z←k⍴y", 0, 10005, 0}, costs{"z←j⍴y", 0, 10005, 0}, costs{"z←,j⍴y", 0, 10005, 0}, costs{"z←⌽⊖k⍴y", 0, 10005, 0}, costs{"z←⍉j⍴y", 0, 10005, 0}, costs{"z←(k⍴y)[1 1;]", 2, 10005, 10007}, costs{"y[1]←9", 4, 10009, 10009})
	runAll(base).then("x←0", "z←⌽⍉j⍴y", "z[1;1;1]←9⋄,z", "y").shows(t, "5 6 5 6\n")
}

func TestIndexing(t *testing.T) {
	wantCosts(t, isX,
		// None, scalars, vectors in steps: the parts' own cells alone.
		costs{"y←x[]", 0, 6, 0}, costs{"y←x[2]", 0, 6, 0}, costs{"y←x[,2]", 0, 6, 0}, costs{"y←x[1 2]", 2, 6, 8}, costs{"y←x[2 1]", 2, 6, 8}, costs{"y←x[1 3 5]", 3, 6, 9}, costs{"y←x[6 4 2]", 3, 6, 9}, costs{"y←x[6 1]", 2, 6, 8}, costs{"y←x[3 3 3]", 3, 6, 9}, costs{"y←x[⍳4]", 0, 6, 0}, costs{"y←x[⌽⍳6]", 0, 6, 0}, costs{"y←x[2×⍳3]", 3, 6, 9}, costs{"y←x[5⍴2]", 0, 6, 0}, costs{"y←x[⍬]", 0, 6, 0}, costs{"x←x[⍳2]", 0, 6, 0}, costs{"y←x[x]", 0, 6, 0}, costs{"y←x[⌽x]", 0, 6, 0}, costs{"x[1 2]", 2, 6, 8},
		// Not in steps.
		costs{"y←x[1 2 4]", 6, 9, 12}, costs{"y←x[1 1 2]", 6, 9, 12}, costs{"y←x[1 2 1]", 6, 9, 12}, costs{"y←x[1 3 4 5 6]", 10, 11, 16}, costs{"y←x[1 2 3 5]", 8, 10, 14},
		// Of rank 2, in steps or not.
		costs{"y←x[2 2⍴⍳4]", 2 + 4, 10, 10}, costs{"y←x[2 2⍴1]", 2 + 4, 10, 10}, costs{"y←x[1 1⍴2]", 2, 6, 8}, costs{"y←x[1 0⍴2]", 2, 6, 8}, costs{"y←x[1 2⍴⍳2]", 2 + 2, 8, 8},
		costs{"y←x[⍳5][⍳3]", 0, 6, 0}, costs{"y←x[1 3 5][3 1]", 5, 6, 11},
	)
	wantCosts(t, isX+"\nn←2 3⍴x",
		costs{"y←n[;]", 0, 6, 0}, costs{"y←n[1;]", 0, 6, 0}, costs{"y←n[;2]", 0, 6, 0}, costs{"y←n[1;2]", 0, 6, 0}, costs{"y←n[2;⍳2]", 0, 6, 0}, costs{"y←n[⍳2;⍳2]", 0, 6, 0}, costs{"y←n[⍬;]", 0, 6, 0}, costs{"y←n[;⍬]", 0, 6, 0}, costs{"y←n[;,2]", 0, 6, 0}, costs{"y←n[,1;,2]", 0, 6, 0}, costs{"y←n[⌽⍳2;3]", 0, 6, 0}, costs{"y←n[9⍴2;]", 0, 6, 0}, costs{"y←n[2⍴1;3⍴1]", 0, 6, 0},
		costs{"y←n[1 2;]", 2, 6, 8}, costs{"y←n[;3 2 1]", 3, 6, 9}, costs{"y←n[1 2;3 1]", 4, 6, 10}, costs{"y←n[;3 1 2]", 9, 12, 15}, costs{"y←n[1;3 1 2]", 6, 9, 12}, costs{"y←n[1 1 2;1]", 6, 9, 12}, costs{"y←n[1 1 2;3 1 2]", 6 + 9, 15, 21}, costs{"y←n[1 1⍴1;]", 2 + 3, 9, 9}, costs{"y←n[1 1⍴1;1]", 2, 6, 8},
	)
	wantCosts(t, isP, costs{"y←p[2×⍳3]", 3, 0, 3}, costs{"y←p[3 1 2]", 6, 3, 6}, costs{"y←p[⌽p]", 0, 0, 0}, costs{"y←p[p×0=0]", 6, 0, 6})
	wantCosts(t, isQ, costs{"y←q[;1]", 0, 0, 0}, costs{"y←q[1;]", 0, 0, 0}, costs{"y←q[;3 1 2]", 9, 6, 9}, costs{"y←(1⍴7)[5⍴1]", 0, 0, 0}, costs{"y←,⍉q", 0, 0, 0}, costs{"y←,q[;1 2]", 2, 0, 2})
}

// TestAllOthersAreNew has each function of numbers that gives six or fewer elements of x, none of which lies where x does.
func TestAllOthersAreNew(t *testing.T) {
	for _, c := range []struct {
		expr  string
		count int
	}{
		{"-x", 6}, {"×x", 6}, {"|x", 6}, {"~x=1", 12}, {"⍋x", 6}, {"⍒x", 6}, {"≢x", 0}, {"⍴x", 0}, {"↑x", 0}, {"+/x", 0}, {"+⌿x", 0}, {`+\x`, 6}, {`⌈⍀x`, 6}, {"x∘.+1", 6}, {"1∘.+x", 6}, {"x+.×x", 0}, {"x+x", 6}, {"x=1", 6}, {"1/x", 6}, {"x/x", 21}, {"1⌿x", 6}, {"10⊥x", 0}, {"2⊤x", 6}, {"x⊤1", 6}, {"x∊1", 6}, {"x⍳x", 6}, {"x,1", 7}, {"x,⍬", 6},
	} {
		live := c.count
		if c.expr == "~x=1" {
			live = 6
		}
		need := 6 + c.count
		if c.count == 0 {
			need = 0
		}
		wantCosts(t, isX, costs{"y←" + c.expr, c.count, 6 + live, need})
	}
	wantCosts(t, isX+"\nn←1 6⍴x", costs{"y←+⌿n", 6, 12, 12}, costs{"y←+/n", 0, 6, 0}, costs{`y←+\n`, 6, 12, 12}, costs{`y←+⍀n`, 6, 12, 12})
	// Of characters too, where there is one along the axis.
	wantCosts(t, isC+"\nd←1 6⍴c", costs{"y←+⌿d", 6, 12, 12}, costs{"y←+⍀d", 6, 12, 12}, costs{"y←c=c", 6, 12, 12})
}

// TestOneElementTakesNoCells has values of one element and of none that come of a great one, whose buffer is then not looked at.
func TestOneElementTakesNoCells(t *testing.T) {
	for _, expr := range []string{"x[2]", "x[,2]", "x[⍬]", "1↑x", "0↑x", "5↓x", "6↓x", "1⍴x", "0⍴x", "⍬⍴x", "↑x", "+/x", "⌽1↑x", ",x[3]", "+x[3]", "{⍵[1]}x", "x{⍺[1]}x", "≢x", "⍴x", "x[1]+x[2]", "0/x", "x[1 1⍴1]", "{1:⍵[2]⋄⍵}x", "∊0⍴x", "⍉5↓x", "(⍬⍴1)⍴x"} {
		_, m := runAll(isX).then("y←" + expr).watched(t)
		if expr == "x[1 1⍴1]" {
			// The shape of the part takes some.
			wantCosts(t, isX, costs{"x←" + expr, 2, 0, 8})
		} else {
			wantCosts(t, isX, costs{"x←" + expr, 0, 0, 0})
		}
		if y := m.grounds[0].arrays["y"]; y.slab != nil {
			t.Errorf("%s looks at %d cells", expr, y.slab.cells)
		}
	}
	// What is made of it later has its own.
	wantCosts(t, isX+"\ny←x[2]\nx←0", costs{"z←y", 0, 0, 0}, costs{"z←3⍴y", 0, 0, 0}, costs{"z←y,y", 2, 2, 2})
	runAll(isX+"\ny←x[2]\nx[2]←9").then("y").shows(t, "2\n")
	runAll(isX+"\ny←4⍴x[2]\nx[2]←9").then("y").shows(t, "2 2 2 2\n")
}

func TestCallsGiveTheValueOfTheirResult(t *testing.T) {
	wantCosts(t, isX+"\nF←{⌽⍵}\nG←{⍺+⍵}\nH←{y←⍵⋄y[1]←0⋄y}",
		costs{"y←F x", 0, 6, 0}, costs{"y←F F x", 0, 6, 0}, costs{"y←x G x", 6, 12, 12}, costs{"y←1 G 2", 0, 6, 0}, costs{"y←H x", 6, 12, 12}, costs{"y←H F x", 6, 12, 12}, costs{"y←H 1 2", 4, 8, 10}, costs{"x←H x", 6, 6, 12}, costs{"H H x", 12, 6, 18}, costs{"y←{x[2 1]}0", 2, 6, 8}, costs{"y←{z←1 2 3⋄w←4 5⋄z}0", 5, 9, 11}, costs{"y←{z←1 2 3⋄z←4 5⋄z}0", 5, 8, 11},
	)
}
