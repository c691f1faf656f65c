package tests

import (
	"fmt"
	"strings"
	"testing"

	"loop.example/s02542/impl"
)

// shown is a table of lines, parted by a byte 10, and what the last of them shows.
func shown(t *testing.T, table map[string]string) {
	t.Helper()
	for lines, want := range table {
		tell(strings.Split(lines, "\n")...).shows(t, want)
	}
}

// failed is a table of lines, parted by a byte 10, and the code of the last of them.
func failed(t *testing.T, table map[string]int) {
	t.Helper()
	for lines, want := range table {
		tell(strings.Split(lines, "\n")...).fails(t, want)
	}
}

func TestCallsGiveTheirResult(t *testing.T) {
	shown(t, map[string]string{
		"{⍵}3":                  "3\n",
		"{⍵+1}1 2":              "2 3\n",
		"10{⍺-⍵}3":              "7\n",
		"'ab'{⍺}3":              "ab\n",
		"F←{⍵×2}\nF 4":          "8\n",
		"F←{⍵×2}\n1 F 4":        "8\n",
		"F←{⍺,⍵}\n1 F 2 F 3":    "1 2 3\n",
		"F←{⍵<2:1⋄⍵×∇⍵-1}\nF 5": "120\n",
		"F←{⍵<2:⍵⋄(∇⍵-1)+∇⍵-2}\nF 10":             "55\n",
		"F←{⍵=0:⍺⋄⍵ ∇ ⍵|⍺}\n48 F 36":              "12\n",
		"F←{7⋄1÷0}\nF 0":                          "7\n",
		"F←{x←⍵⋄x⋄y←x÷0}\nF 5":                    "5\n",
		"{{⍵+1}⍵×2}5":                             "11\n",
		"F←{⍵=0:0⋄1-G ⍵-1}\nG←{⍵=0:5⋄F ⍵-1}\nF 4": "0\n",
		"F←{⍵}\nF F F 3":                          "3\n",
		"1 2{(⍺)[⍵]}2":                            "2\n",
		"{⍵[2]}5 6":                               "6\n",
		"+/{⍵×⍵}⍳3":                               "14\n",
		"({⍵+1}2)+{⍵+1}3":                         "7\n",
		"x←{⍵}⍬\nx":                               "\n",
		"⍴{2 3⍴⍵}4":                               "2 3\n",
	})
}

func TestCallsWithoutAResult(t *testing.T) {
	failed(t, map[string]int{
		"{}1":                   impl.ErrValue,
		"1{}1":                  impl.ErrValue,
		"{x←⍵}1":                impl.ErrValue,
		"{F←{⍵}}1":              impl.ErrValue,
		"{x←1 2⋄x[1]←⍵}1":       impl.ErrValue,
		"{x←1⋄x+←⍵}1":           impl.ErrValue,
		"{x←1 2⋄(⌽x)←⍵}1":       impl.ErrValue,
		"{0:1}1":                impl.ErrValue,
		"{0:1⋄⍵=2:3}1":          impl.ErrValue,
		"F←{⍵:1}\n(F 1)+F 0":    impl.ErrValue,
		"F←{}\nF 1":             impl.ErrValue,
		"F←{⍵=0:1⋄x←∇⍵-1}\nF 1": impl.ErrValue,
	})
}

func TestGuards(t *testing.T) {
	shown(t, map[string]string{
		"{⍵:1⋄2}1": "1\n", "{⍵:1⋄2}0": "2\n", "{⍵:1⋄2}1⍴1": "1\n", "{⍵:1⋄2}1 1⍴0": "2\n", "{⍵=0:'a'⋄⍵=1:'b'⋄'c'}1": "b\n", "{⍵=0:'a'⋄⍵=1:'b'⋄'c'}2": "c\n", "{0:u⋄1}5": "1\n", "{1:1⋄u}5": "1\n", "{1:⍵⋄2}3 4": "3 4\n", "{1:⍵⋄2}''": "\n",
	})
	failed(t, map[string]int{
		"{⍵:1⋄2}2": impl.ErrDomain, "{⍵:1⋄2}¯1": impl.ErrDomain, "{⍵:1⋄2}1000000000000000": impl.ErrDomain, "{⍵:1⋄2}'a'": impl.ErrDomain, "{⍵:1⋄2}1⍴'1'": impl.ErrDomain, "{⍵:1⋄2}(1⍴2)": impl.ErrDomain,
		"{⍵:1⋄2}⍬": impl.ErrLength, "{⍵:1⋄2}''": impl.ErrLength, "{⍵:1⋄2}0 1": impl.ErrLength, "{⍵:1⋄2}1 1": impl.ErrLength, "{⍵:1⋄2}'ab'": impl.ErrLength, "{⍵:1⋄2}2 3": impl.ErrLength, "{⍵:1⋄2}2 2⍴1": impl.ErrLength, "{⍵:1⋄2}0 3⍴1": impl.ErrLength,
		"{u:1⋄2}1": impl.ErrValue, "{1:u⋄2}1": impl.ErrValue, "{1÷0:u}1": impl.ErrDomain,
	})
	// A character whose number is 0 or 1 is none of these numbers.
	tell("{⍵:1⋄2}'\x00'").fails(t, impl.ErrDomain)
	tell("{⍵:1⋄2}'\x01'").fails(t, impl.ErrDomain)
}

func TestArgumentsOfCalls(t *testing.T) {
	shown(t, map[string]string{
		"1{⍺+⍵}2":             "3\n",
		"{x←{⍵+1}5⋄⍵}3":       "3\n",
		"8{x←{⍵+1}5⋄⍺}3":      "8\n",
		"8{x←7{⍺+⍵}5⋄⍺,⍵,x}3": "8 3 12\n",
		"1{2{⍺}⍵}3":           "2\n",
		"1{⍺{⍵{⍺}⍺}⍵}3":       "3\n",
		"{⍵}{⍵}5":             "5\n",
	})
	failed(t, map[string]int{
		"⍵": impl.ErrValue, "⍺": impl.ErrValue, "1+⍵": impl.ErrValue, "x←⍺": impl.ErrValue, "⍵⋄{⍵}1": impl.ErrValue, "x←{⍵}1⋄⍵": impl.ErrValue, "x←1{⍺}1⋄⍺": impl.ErrValue, "({⍵}1)+⍵": impl.ErrValue, "⍺+1{⍺}2": impl.ErrValue,
		"{⍺}1": impl.ErrValue, "{⍺+⍵}1": impl.ErrValue, "1{{⍺}⍵}2": impl.ErrValue, "F←{⍺}\nF 1": impl.ErrValue, "F←{⍺}\n1{F ⍵}2": impl.ErrValue, "F←{⍵=0:⍺⋄∇⍵-1}\n5 F 1": impl.ErrValue,
	})
}

func TestSelfIsTheFunctionOfTheCallUnderWay(t *testing.T) {
	shown(t, map[string]string{
		"{⍵=0:9⋄∇⍵-1}3":                         "9\n",
		"F←{⍵=0:7⋄{⍵=0:5⋄∇⍵-1}⍵}\nF 3":          "5\n",
		"F←{⍵=0:7⋄x←{⍵=0:5⋄∇⍵-1}⍵⋄x,∇⍵-1}\nF 2": "5 5 7\n",
		"F←{⍵=0:7⋄F←{9}⋄∇⍵-1}\nF 3":             "7\n",
		"F←{⍵=0:7⋄F←{9}⋄F ⍵-1}\nF 3":            "9\n",
		"F←{⍵=0:7⋄F←{9}⋄1}\nx←F 1\nF 0":         "7\n",
		"F←{⍵=0:1⋄∇⍵-1}\nF←{2}⋄F 5":             "2\n",
		"G←{⍵=0:1⋄F ⍵-1}\nF←{⍵=0:2⋄∇⍵-1}\nG 3":  "2\n",
		"5{⍵=0:⍺⋄(⍺+1)∇⍵-1}3":                   "8\n",
	})
}

func TestSelfOutsideACall(t *testing.T) {
	failed(t, map[string]int{
		"∇1": impl.ErrValue, "1∇1": impl.ErrValue, "x←∇1": impl.ErrValue, "x←{⍵}1⋄∇1": impl.ErrValue, "(∇2)+{⍵}1": impl.ErrValue, "F←{⍵}\nF ∇1": impl.ErrValue,
	})
}

func TestNamesOfFunctions(t *testing.T) {
	failed(t, map[string]int{
		"H 1": impl.ErrValue, "1 H 2": impl.ErrValue, "F←{H ⍵}\nF 1": impl.ErrValue, "F←{⍵}\nH 1": impl.ErrValue, "{F←{⍵}⋄1}1\nF 1": impl.ErrValue, "F←{G←{⍵}⋄⍵}\nF 1⋄G 1": impl.ErrValue,
		"F←{G←{H ⍵}⋄H←{⍵}⋄G ⍵}\nF 1": impl.ErrValue, "F←{G←{5}⋄H ⍵}\nH←{G ⍵}\nF 1": impl.ErrValue,
	})
	shown(t, map[string]string{
		"F←{⍵}\nF←{⍵+1}\nF 1":                                             "2\n",
		"F←{G ⍵}\nG←{⍵+1}\nF 1":                                           "2\n",
		"F←{G ⍵}\nG←{⍵+1}\nG←{⍵+2}\nF 1":                                  "3\n",
		"F←{G←{⍵+5}⋄G ⍵}\nF 1":                                            "6\n",
		"G←{⍵}\nF←{G←{⍵+5}⋄G ⍵}\n(F 1),G 1":                               "6 1\n",
		"H←{⍵+9}\nF←{G←{H ⍵}⋄H←{⍵}⋄G ⍵}\nF 1":                             "10\n",
		"F←{x←G ⍵⋄G←{7}⋄x,G ⍵}\nG←{⍵+1}\nF 1":                             "2 7\n",
		"X1y←{⍵}\nABCDEFGHIJKLMNOPQRST←{⍵+X1y ⍵}\nABCDEFGHIJKLMNOPQRST 4": "8\n",
	})
}

func TestNamesOfCallsAreTheirOwn(t *testing.T) {
	shown(t, map[string]string{
		"x←5\nF←{x}\nF 1":                       "5\n",
		"F←{x}\nx←5\nx←6\nF 1":                  "6\n",
		"x←5\nF←{x←⍵⋄x}\nF 1⋄x":                 "1\n5\n",
		"x←5\nF←{x←⍵⋄x+←1⋄x}\nF 7⋄x":            "8\n5\n",
		"x←5\nF←{y←x⋄x←⍵⋄y,x}\nF 1":             "5 1\n",
		"x←5\nF←{⍵=0:x⋄x←⍵⋄∇⍵-1}\nF 3":          "5\n",
		"F←{⍵=0:1⋄x←⍵⋄y←∇⍵-1⋄x}\nF 3":           "3\n",
		"x←5\nF←{x←7⋄G ⍵}\nG←{x}\nF 1":          "5\n",
		"F←{x←1 2 3⋄x[2]←⍵⋄(⌽x)←x⋄x×←2⋄x}\nF 9": "6 18 2\n",
	})
	failed(t, map[string]int{
		"F←{x←⍵⋄1}\ny←F 3\nx": impl.ErrValue, "F←{x←⍵⋄1}\n(F 3)+x": impl.ErrValue, "F←{x←⍵⋄1}\nx+F 3": impl.ErrValue, "F←{x←⍵⋄G 1}\nG←{x}\nF 3": impl.ErrValue, "{x←⍵⋄{x}1}2": impl.ErrValue, "F←{⍵=0:x⋄x←⍵⋄∇⍵-1}\nF 3": impl.ErrValue,
		"x←5\nF←{x[1]←2⋄x}\nF 1": impl.ErrValue, "x←5\nF←{x+←2⋄x}\nF 1": impl.ErrValue, "x←5 6\nF←{(⌽x)←2⋄x}\nF 1": impl.ErrValue, "x←5 6\n{x←⍵⋄{x+←1⋄x}1}2": impl.ErrValue,
	})
}

// countdown calls itself as often as its argument says, and once.
const countdown = "F←{⍵=0:0⋄1+∇⍵-1}"

func TestMaxCalls(t *testing.T) {
	tell(countdown, "F 49").shows(t, "49\n")
	tell(countdown, "F 50").fails(t, impl.ErrLimit)
	tell(countdown, "1 F 49").fails(t, 0)
	tell(countdown, "{F ⍵}48").shows(t, "48\n")
	tell(countdown, "{F ⍵}49").fails(t, impl.ErrLimit)
	tell("F←{⍵=0:0⋄1+G ⍵-1}", "G←{⍵=0:0⋄1+F ⍵-1}", "F 49").shows(t, "49\n")
	tell("F←{⍵=0:0⋄1+G ⍵-1}", "G←{⍵=0:0⋄1+F ⍵-1}", "F 50").fails(t, impl.ErrLimit)
	tell("F←{∇⍵}", "F 1").fails(t, impl.ErrLimit)
	// A call that has ended is not under way, be it that it ended with a code.
	tell(countdown, "F 50", "F 50", "F 49").shows(t, "49\n")
	tell(countdown, "(F 49)+(F 49)+F 49").shows(t, "147\n")
	tell(countdown, "F 49⋄F 49⋄F 50").fails(t, impl.ErrLimit)
	tell(countdown, "G←{⍵=0:0⋄x←F 1⋄x+∇⍵-1}", "G 48").shows(t, "48\n")
	tell(countdown, "G←{⍵=0:0⋄x←F 2⋄x+∇⍵-1}", "G 48").fails(t, impl.ErrLimit)
	tell(countdown, "F←{⍵=0:1÷0⋄∇⍵-1}", "F 49", "F 49", countdown, "F 49").shows(t, "49\n")
}

// TestTheCallTooManyIsCounted asks that the elements of its argument are counted ahead of its code.
func TestTheCallTooManyIsCounted(t *testing.T) {
	// The line counts its node, those of b and of its element, and the element again. Each of the 50 calls counts its guard, ⍵=0 with 8, the nodes of + and ∇, ⍵-1 with 8, and the element of the next argument.
	want := 4 + 50*(1+8+1+1+8+1)
	got := tell(countdown, "F 50").last(t)
	if got.Work != want || got.Made != 1+50*(3+3) {
		t.Errorf("work %d, made %d; want %d, %d", got.Work, got.Made, want, 1+50*6)
	}
	if got := tell(countdown, "F 50").with(want - 1).last(t); got.Code != impl.ErrFuel {
		t.Errorf("code %d", got.Code)
	}
	if got := tell(countdown, "F 50").with(want).last(t); got.Code != impl.ErrLimit {
		t.Errorf("code %d", got.Code)
	}
}

// assignments are stmts that give so many names an array or a function, from a number on.
func assignments(from int, count int, high bool) string {
	var stmts []string
	for i := range count {
		if high {
			stmts = append(stmts, fmt.Sprintf("N%d←{%d}", from+i, from+i))
		} else {
			stmts = append(stmts, fmt.Sprintf("n%d←%d", from+i, from+i))
		}
	}
	return strings.Join(stmts, "⋄")
}

func TestMaxNamesInTheWorkspace(t *testing.T) {
	for _, high := range []bool{false, true} {
		for _, highToo := range []bool{false, true} {
			full := tell(assignments(0, 50, high), assignments(50, 50, highToo))
			full.fails(t, 0)
			full.then("y←1").fails(t, impl.ErrLimit)
			full.then("F←{1}").fails(t, impl.ErrLimit)
			full.then("y←1÷0").fails(t, impl.ErrDomain)
			full.then("y[1]←2").fails(t, impl.ErrValue)
			full.then("y←1", "1+1").shows(t, "2\n")
			full.then(assignments(0, 50, high), assignments(50, 50, highToo)).fails(t, 0)
			full.then(assignments(49, 1, high), assignments(99, 1, highToo)).fails(t, 0)
			full.then("{x←⍵⋄F←{⍵}⋄F x}5").shows(t, "5\n")
			tell(assignments(0, 50, high), assignments(50, 49, highToo), "y←1", "F←{1}").fails(t, impl.ErrLimit)
			tell(assignments(0, 50, high), assignments(50, 49, highToo), "F←{1}", "y←1").fails(t, impl.ErrLimit)
			tell(assignments(0, 50, high), assignments(50, 49, highToo), "F←{1}⋄y←1", "y←1").fails(t, 0)
			tell(assignments(0, 50, high), assignments(50, 51, highToo)).fails(t, impl.ErrLimit)
			tell(assignments(0, 50, high), assignments(50, 51, highToo), assignments(100, 50, highToo)).fails(t, 0)
		}
	}
	full := tell(assignments(0, 50, false), assignments(50, 50, false))
	full.then("n7[⍬]←2").fails(t, impl.ErrRank)
	full.then("n7+←2", "n7").shows(t, "9\n")
	full.then("n7←1 2⋄n7[1]←5⋄(⌽n7)←n7", "n7").shows(t, "2 5\n")
}

func TestMaxNamesInACall(t *testing.T) {
	braced := func(items string) string { return "{" + items + "}0" }
	for _, high := range []bool{false, true} {
		full := assignments(0, 100, high)
		tell(braced(full+"⋄5")).shows(t, "5\n")
		tell(braced(full+"⋄y←1⋄5")).fails(t, impl.ErrLimit)
		tell(braced(full+"⋄F←{1}⋄5")).fails(t, impl.ErrLimit)
		tell(braced(full+"⋄"+assignments(99, 1, high)+"⋄5")).shows(t, "5\n")
		tell(braced(full+"⋄{y←⍵⋄y}5")).shows(t, "5\n")
		tell(braced(assignments(0, 50, high)+"⋄"+assignments(50, 50, !high)+"⋄5")).shows(t, "5\n")
		tell(braced(assignments(0, 50, high)+"⋄"+assignments(50, 51, !high)+"⋄5")).fails(t, impl.ErrLimit)
		// The names of the workspace are not the call's, nor the call's those of the workspace.
		tell("y←1", braced(full+"⋄y")).shows(t, "1\n")
		tell("y←1", braced(full+"⋄y←2⋄y")).fails(t, impl.ErrLimit)
		tell(assignments(0, 99, high), "x←{"+assignments(200, 60, false)+"⋄7}0", "x").shows(t, "7\n")
		tell(assignments(0, 100, high), "{"+assignments(200, 60, false)+"⋄7}0").shows(t, "7\n")
	}
}
