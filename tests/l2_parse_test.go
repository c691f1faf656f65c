package tests

import (
	"strings"
	"testing"

	"loop.example/s02542/impl"
)

// primSigns are the signs of the primitives from 1 on.
var primSigns = strings.Fields("+ - × ÷ ⌊ ⌈ | * = ≠ < ≤ ≥ > ∧ ∨ ~ ⍴ ⍳ , ⌽ ⊖ ⍉ ↑ ↓ ⍋ ⍒ ∊ / ⌿ ⊥ ⊤ ≢")

func wantNodes(t *testing.T, line string, want ...impl.Node) {
	t.Helper()
	got, code, at := impl.Parse([]byte(line))
	if code != 0 || at != 0 || !sameTree(got, impl.Tree{Nodes: want}) {
		t.Errorf("Parse(%q) = %+v, %d, %d; want %+v", line, got.Nodes, code, at, want)
	}
	if !impl.TreeOk(impl.Tree{Nodes: want}) {
		t.Errorf("TreeOk(%+v) is false", want)
	}
}

func wantTree(t *testing.T, line string, stmts ...twig) {
	t.Helper()
	wantNodes(t, line, flat(wLine(stmts...)).Nodes...)
}

func wantParseFault(t *testing.T, line string, code, at int) {
	t.Helper()
	tree, gotCode, gotAt := impl.Parse([]byte(line))
	if len(tree.Nodes) != 0 || gotCode != code || gotAt != at {
		t.Errorf("Parse(%q) = %+v, %d, %d; want nothing, %d, %d", line, tree.Nodes, gotCode, gotAt, code, at)
	}
}

// wantRefused takes a line with a mark ‸ in front of the token (or the end) at which it must be refused.
func wantRefused(t *testing.T, marked string) {
	t.Helper()
	before, after, found := strings.Cut(marked, "‸")
	if !found {
		t.Fatalf("%q has no mark", marked)
	}
	wantParseFault(t, before+after, impl.ErrSyntax, len(before))
}

func TestParseNodeByNode(t *testing.T) {
	wantNodes(t, "", impl.Node{K: 25})
	wantNodes(t, " \t⍝ nothing \xff", impl.Node{K: 25})
	wantNodes(t, "1 ¯2 3", impl.Node{K: 1, Nums: []int{1, -2, 3}}, impl.Node{K: 25, Kids: []int{0}})
	wantNodes(t, "x[1;]+.×⍉y",
		impl.Node{K: 3, S: "x"}, impl.Node{K: 1, Nums: []int{1}}, impl.Node{K: 8}, impl.Node{K: 7, Kids: []int{0, 1, 2}},
		impl.Node{K: 15, N: 1, M: 3}, impl.Node{K: 11, N: 23}, impl.Node{K: 3, S: "y"}, impl.Node{K: 9, Kids: []int{5, 6}},
		impl.Node{K: 10, Kids: []int{3, 4, 7}}, impl.Node{K: 25, Kids: []int{8}})
	wantNodes(t, "F←{⍵=0:1⋄∇⍵-1}",
		impl.Node{K: 5}, impl.Node{K: 11, N: 9}, impl.Node{K: 1, Nums: []int{0}}, impl.Node{K: 10, Kids: []int{0, 1, 2}},
		impl.Node{K: 1, Nums: []int{1}}, impl.Node{K: 24, Kids: []int{3, 4}},
		impl.Node{K: 18}, impl.Node{K: 5}, impl.Node{K: 11, N: 2}, impl.Node{K: 1, Nums: []int{1}}, impl.Node{K: 10, Kids: []int{7, 8, 9}},
		impl.Node{K: 9, Kids: []int{6, 10}}, impl.Node{K: 16, Kids: []int{5, 11}},
		impl.Node{K: 20, S: "F", Kids: []int{12}}, impl.Node{K: 25, Kids: []int{13}})
	wantNodes(t, "m[⍬;'a']←x⋄m×←2⋄(1↑m)←0",
		impl.Node{K: 6}, impl.Node{K: 2, S: "a"}, impl.Node{K: 3, S: "x"}, impl.Node{K: 21, S: "m", Kids: []int{0, 1, 2}},
		impl.Node{K: 1, Nums: []int{2}}, impl.Node{K: 22, S: "m", N: 3, Kids: []int{4}},
		impl.Node{K: 1, Nums: []int{1}}, impl.Node{K: 11, N: 24}, impl.Node{K: 3, S: "m"}, impl.Node{K: 10, Kids: []int{6, 7, 8}},
		impl.Node{K: 1, Nums: []int{0}}, impl.Node{K: 23, Kids: []int{9, 10}}, impl.Node{K: 25, Kids: []int{3, 5, 11}})
}

func TestParseOperands(t *testing.T) {
	wantTree(t, "1000000000000000 ¯1000000000000000", wNums(impl.MaxInt, -impl.MaxInt))
	wantTree(t, "''", wText(""))
	wantTree(t, "'it''s'", wText("it's"))
	wantTree(t, "x", wLow("x"))
	wantTree(t, "abcdefghijklmnopqr12", wLow("abcdefghijklmnopqr12"))
	wantTree(t, "⍺", wLeft())
	wantTree(t, "⍵", wRight())
	wantTree(t, "⍬", wNone())
	wantTree(t, "( (((x))) )", wLow("x"))
	wantTree(t, "(1 2)", wNums(1, 2))
	wantTree(t, "(x+1)×2", wDyad(wDyad(wLow("x"), wPrim(1), wNums(1)), wPrim(3), wNums(2)))
	wantTree(t, "x+(y-1)", wDyad(wLow("x"), wPrim(1), wDyad(wLow("y"), wPrim(2), wNums(1))))
	wantTree(t, "'←'", wText("←"))
	wantTree(t, "'['", wText("["))
	wantTree(t, "1 2+3 4", wDyad(wNums(1, 2), wPrim(1), wNums(3, 4)))
}

func TestParseIndexes(t *testing.T) {
	x, one, no := wLow("x"), wNums(1), wNoPart()
	wantTree(t, "x[]", wIndex(x, no))
	wantTree(t, "x[1]", wIndex(x, one))
	wantTree(t, "x[;]", wIndex(x, no, no))
	wantTree(t, "x[1;;]", wIndex(x, one, no, no))
	wantTree(t, "x[;1]", wIndex(x, no, one))
	wantTree(t, "x[1][;][]", wIndex(wIndex(wIndex(x, one), no, no), no))
	wantTree(t, "(x[1])[]", wIndex(wIndex(x, one), no))
	wantTree(t, "x[x[1];+x]", wIndex(x, wIndex(x, one), wMonad(wPrim(1), x)))
	wantTree(t, "1 2 3[1]", wIndex(wNums(1, 2, 3), one))
	wantTree(t, "'abc'[1]", wIndex(wText("abc"), one))
	wantTree(t, "⍺[⍵]", wIndex(wLeft(), wRight()))
	wantTree(t, "⍬[⍬]", wIndex(wNone(), wNone()))
	wantTree(t, "(+x)[1]", wIndex(wMonad(wPrim(1), x), one))
	wantTree(t, "+x[1]", wMonad(wPrim(1), wIndex(x, one)))
	wantTree(t, "x[1]+x[]", wDyad(wIndex(x, one), wPrim(1), wIndex(x, no)))
	wantTree(t, "(x)[1]", wIndex(x, one))
}

func TestParseEachPrimitive(t *testing.T) {
	x, y := wLow("x"), wLow("y")
	if len(primSigns) != impl.FnTally {
		t.Fatalf("%d signs", len(primSigns))
	}
	for i, s := range primSigns {
		f := wPrim(i + 1)
		wantTree(t, s+"x", wMonad(f, x))
		wantTree(t, "y"+s+"x", wDyad(y, f, x))
		wantTree(t, "y "+s+"⍉ x", wDyad(y, f, wMonad(wPrim(impl.FnTurn), x)))
	}
	for _, s := range []string{`\`, "⍀", ".", ":", ";", "]", ")", "}"} {
		wantRefused(t, "‸"+s+"x")
		wantRefused(t, "y‸"+s+" x⋄")
	}
	wantRefused(t, "y∘‸x")
}

func TestParseWhatAnSfnTakes(t *testing.T) {
	x, y := wLow("x"), wLow("y")
	for i, s := range primSigns {
		n := i + 1
		if n > impl.FnOr {
			wantTree(t, s+"/x", wMonad(wPrim(n), wMonad(wPrim(impl.FnRep), x)))
			wantTree(t, "y"+s+"⌿x", wDyad(y, wPrim(n), wMonad(wPrim(impl.FnRepF), x)))
			wantRefused(t, s+`‸\x`)
			wantRefused(t, "y"+s+"‸⍀x")
			wantRefused(t, s+"‸.+x")
			wantRefused(t, "y+.‸"+s+"x")
			wantRefused(t, "y∘.‸"+s+"x")
			wantRefused(t, "y"+s+"‸←x")
			continue
		}
		for j, f := range []twig{wReduce(n, 0), wReduce(n, 1), wScan(n, 0), wScan(n, 1)} {
			behind := []string{"/", "⌿", `\`, "⍀"}[j]
			wantTree(t, s+behind+"x", wMonad(f, x))
			wantTree(t, "y"+s+behind+"x", wDyad(y, f, x))
			wantTree(t, s+" "+behind+" x", wMonad(f, x))
			wantTree(t, s+behind+"/x", wMonad(f, wMonad(wPrim(impl.FnRep), x)))
			wantRefused(t, s+behind+`‸\x`)
			wantRefused(t, s+behind+"‸.+x")
			wantRefused(t, "y"+s+behind+"‸←x")
		}
		wantTree(t, "∘."+s+"x", wMonad(wOuter(n), x))
		wantTree(t, "y ∘ . "+s+" x", wDyad(y, wOuter(n), x))
		wantTree(t, "y∘."+s+"/x", wDyad(y, wOuter(n), wMonad(wPrim(impl.FnRep), x)))
		for j, u := range primSigns[:impl.FnOr] {
			wantTree(t, "y"+s+"."+u+"x", wDyad(y, wInner(n, j+1), x))
			wantTree(t, s+" . "+u+"⌿x", wMonad(wInner(n, j+1), wMonad(wPrim(impl.FnRepF), x)))
			wantRefused(t, s+"."+u+"‸.+x")
			wantRefused(t, s+"."+u+`‸\x`)
		}
	}
	wantTree(t, "+(/x)", wMonad(wPrim(1), wMonad(wPrim(impl.FnRep), x)))
	wantTree(t, "y+(⌿x)", wDyad(y, wPrim(1), wMonad(wPrim(impl.FnRepF), x)))
	wantTree(t, "+-/x", wMonad(wPrim(1), wMonad(wReduce(2, 0), x)))
	wantTree(t, "+//x", wMonad(wReduce(1, 0), wMonad(wPrim(impl.FnRep), x)))
	wantTree(t, "x/y", wDyad(x, wPrim(impl.FnRep), y))
	wantTree(t, "x⌿+⌿y", wDyad(x, wPrim(impl.FnRepF), wMonad(wReduce(1, 1), y)))
}

func TestParseOtherFunctions(t *testing.T) {
	x, y := wLow("x"), wLow("y")
	wantTree(t, "F x", wMonad(wHigh("F"), x))
	wantTree(t, "y F x", wDyad(y, wHigh("F"), x))
	wantTree(t, "F G x", wMonad(wHigh("F"), wMonad(wHigh("G"), x)))
	wantTree(t, "F/x", wMonad(wHigh("F"), wMonad(wPrim(impl.FnRep), x)))
	wantTree(t, "∇x", wMonad(wSelf(), x))
	wantTree(t, "⍺∇⍵", wDyad(wLeft(), wSelf(), wRight()))
	wantTree(t, "{⍵}x", wMonad(wBraces(wRight()), x))
	wantTree(t, "y{⍺+⍵}x", wDyad(y, wBraces(wDyad(wLeft(), wPrim(1), wRight())), x))
	wantTree(t, "{}x", wMonad(wBraces(), x))
	wantTree(t, "{{}⍵}x", wMonad(wBraces(wMonad(wBraces(), wRight())), x))
	wantTree(t, "F{⍵}x", wMonad(wHigh("F"), wMonad(wBraces(wRight()), x)))
	wantTree(t, "{⍵}/x", wMonad(wBraces(wRight()), wMonad(wPrim(impl.FnRep), x)))
	wantTree(t, "x[1]F x", wDyad(wIndex(x, wNums(1)), wHigh("F"), x))
}

func TestParseItems(t *testing.T) {
	x, w := wLow("x"), wRight()
	wantTree(t, "{x←⍵⋄x}1", wMonad(wBraces(wAssign("x", w), x), wNums(1)))
	wantTree(t, "{⍵:x⋄x:⍵⋄x}1", wMonad(wBraces(wGuard(w, x), wGuard(x, w), x), wNums(1)))
	wantTree(t, "{(⍵):(x)}1", wMonad(wBraces(wGuard(w, x)), wNums(1)))
	wantTree(t, "{+x:-x}1", wMonad(wBraces(wGuard(wMonad(wPrim(1), x), wMonad(wPrim(2), x))), wNums(1)))
	wantTree(t, "{x[1]:⍵}1", wMonad(wBraces(wGuard(wIndex(x, wNums(1)), w)), wNums(1)))
	wantTree(t, "{F←{∇⍵}⋄x+←1⋄x[1]←2⋄(⌽x)←3}1", wMonad(wBraces(
		wDefine("F", wBraces(wMonad(wSelf(), w))), wModify("x", 1, wNums(1)), wParts("x", wNums(1), wNums(2)),
		wChoose(wMonad(wPrim(impl.FnRev), x), wNums(3))), wNums(1)))
	wantTree(t, "x[{y←⍵⋄y[]←1⋄y}1]←2", wParts("x", wMonad(wBraces(
		wAssign("y", w), wParts("y", wNoPart(), wNums(1)), wLow("y")), wNums(1)), wNums(2)))
	wantRefused(t, "x‸:1")
	wantRefused(t, "{x←1‸:2}3")
	wantRefused(t, "{F←{⍵}‸:2}3")
	wantRefused(t, "{x+←1‸:2}3")
	wantRefused(t, "{x[1]←1‸:2}3")
	wantRefused(t, "{(⌽x)←1‸:2}3")
	wantRefused(t, "{1:2‸:3}4")
	wantRefused(t, "{1:x‸←3}4")
	wantRefused(t, "{1:F‸←{⍵}}4")
	wantRefused(t, "{1:x[1]‸←3}4")
	wantRefused(t, "{1:x+‸←3}4")
	wantRefused(t, "{1:(⌽x)‸←3}4")
	wantRefused(t, "{1:‸}4")
	wantRefused(t, "{1:‸⋄2}4")
	wantRefused(t, "{‸:1}4")
	wantRefused(t, "{‸⋄}4")
	wantRefused(t, "{‸⋄1}4")
	wantRefused(t, "{1⋄‸}4")
	wantRefused(t, "{1⋄‸⋄2}4")
	wantRefused(t, "{(1‸:2)}4")
	wantRefused(t, "x[1‸:2]")
}

func TestParseForms(t *testing.T) {
	x, one, two := wLow("x"), wNums(1), wNums(2)
	wantTree(t, "x←1", wAssign("x", one))
	wantTree(t, "x ← +/ 1 2", wAssign("x", wMonad(wReduce(1, 0), wNums(1, 2))))
	wantTree(t, "F←{}", wDefine("F", wBraces()))
	wantTree(t, "F←{⍵}⋄G←{⍺}", wDefine("F", wBraces(wRight())), wDefine("G", wBraces(wLeft())))
	wantTree(t, "x[]←1", wParts("x", wNoPart(), one))
	wantTree(t, "x[1;;2]←x", wParts("x", one, wNoPart(), two, x))
	wantTree(t, "x[x[1]]←2", wParts("x", wIndex(x, one), two))
	wantTree(t, "x['[']←2", wParts("x", wText("["), two))
	wantTree(t, "x[']';x[']']]←2", wParts("x", wText("]"), wIndex(x, wText("]")), two))
	for i, s := range primSigns[:impl.FnOr] {
		wantTree(t, "x"+s+"←1", wModify("x", i+1, one))
		wantTree(t, "x "+s+" ←/x", wModify("x", i+1, wMonad(wPrim(impl.FnRep), x)))
	}
	wantTree(t, "x←1⋄x⋄x[1]", wAssign("x", one), x, wIndex(x, one))
	wantTree(t, "x[1]", wIndex(x, one))
	wantTree(t, "x[1]+2", wDyad(wIndex(x, one), wPrim(1), two))
	wantTree(t, "(x)", x)
	wantTree(t, "(x)+1", wDyad(x, wPrim(1), one))
	wantTree(t, "(x)[1][2]F x", wDyad(wIndex(wIndex(x, one), two), wHigh("F"), x))
}

func TestParseSelections(t *testing.T) {
	x, one := wLow("x"), wNums(1)
	wantTree(t, "(x[1])←1", wChoose(wIndex(x, one), one))
	wantTree(t, "((x)[])←1", wChoose(wIndex(x, wNoPart()), one))
	wantTree(t, "(((⌽(x))))←1", wChoose(wMonad(wPrim(impl.FnRev), x), one))
	for _, n := range []int{impl.FnCat, impl.FnRev, impl.FnRevF, impl.FnTurn} {
		wantTree(t, "("+primSigns[n-1]+"x)←1", wChoose(wMonad(wPrim(n), x), one))
	}
	for _, n := range []int{impl.FnRev, impl.FnRevF, impl.FnTurn, impl.FnTake, impl.FnDrop} {
		wantTree(t, "(1"+primSigns[n-1]+"x)←1", wChoose(wDyad(one, wPrim(n), x), one))
		wantTree(t, "((+y)"+primSigns[n-1]+"x)←1", wChoose(wDyad(wMonad(wPrim(1), wLow("y")), wPrim(n), x), one))
	}
	wantTree(t, "((,1↑⌽x[1])[y;])←{⍵}1", wChoose(wIndex(
		wMonad(wPrim(impl.FnCat), wDyad(one, wPrim(impl.FnTake), wMonad(wPrim(impl.FnRev), wIndex(x, one)))),
		wLow("y"), wNoPart()), wMonad(wBraces(wRight()), one)))
	wantTree(t, "(x[1][2])←1", wChoose(wIndex(wIndex(x, one), wNums(2)), one))
	wantTree(t, "(x[{(⌽y)←1⋄y}2])←3", wChoose(wIndex(x, wMonad(wBraces(wChoose(wMonad(wPrim(impl.FnRev), wLow("y")), one), wLow("y")), wNums(2))), wNums(3)))
	wantTree(t, "{(⌽x)←1}2", wMonad(wBraces(wChoose(wMonad(wPrim(impl.FnRev), x), one)), wNums(2)))
}

func TestParseWhatIsNoSelection(t *testing.T) {
	for _, a := range []string{
		"x", "(x)", "1", "'a'", "⍺", "⍵", "⍬", "⌽1", "⌽'a'", "⌽⍵", "⌽⍺", "⌽⍬", "1[1]", "⍵[1]", "⍺[]", "⍬[]", "'a'[1]", "(x+1)[1]", "(+x)[1]", "x+1",
		"F x", "1 F x", "∇x", "{⍵}x", "1{⍵}x", "+/x", "+⌿x", `+\x`, "∘.+x", "x∘.+x", "x+.×x", "x↑1", "x⌽1", "⌽x+1", "⌽F x", "1↑{⍵}x", "⌽+x", "⌽↑x", "(⍴x)[1]", "x⌽x[1]+1", "1↑+/x",
	} {
		wantRefused(t, "("+a+")‸←1")
		wantRefused(t, "("+a+")‸←")
		wantRefused(t, "("+a+")‸←)")
		wantRefused(t, "x⋄ ( "+a+" ) ‸← 1")
		wantRefused(t, "{("+a+")‸←1}2")
	}
	for i, s := range primSigns {
		if n := i + 1; n < impl.FnCat || n > impl.FnTurn {
			wantRefused(t, "("+s+"x)‸←1")
			wantRefused(t, "(⌽"+s+"x)‸←1")
			wantRefused(t, "(("+s+"x)[1])‸←1")
		}
		if n := i + 1; n < impl.FnRev || n > impl.FnDrop {
			wantRefused(t, "(1"+s+"x)‸←1")
			wantRefused(t, "(⌽1"+s+"x)‸←1")
			wantRefused(t, "((1"+s+"x)[1])‸←1")
		}
	}
}

func TestParseArrowsThatMayNotStand(t *testing.T) {
	for _, line := range []string{
		"‸←", "‸←1", "1‸←2", "1 2‸←3", "'a'‸←1", "⍺‸←1", "⍵‸←1", "⍬‸←1", "x[1][2]‸←3", "1[1]‸←2", "(x)[1]‸←2", "(⌽x)[1]‸←2", "(x)+‸←1", "(⌽x)+‸←1",
		"x←y‸←1", "x←y[1]‸←1", "x←(⌽y)‸←1", "x[1]←y‸←2", "x+←y‸←2", "(⌽x)←y‸←2", "1+x‸←2", "+x‸←2", "x+y‸←2", "x[y‸←1]", "x[y‸←1]←2", "(x‸←1)", "(x‸←1)+2",
		"x~‸←1", "x⍴‸←1", "x/‸←1", "x+/‸←1", `x+\‸←1`, "x+.×‸←1", "x∘.+‸←1", "x{⍵}‸←1", "x F‸←1", "x∇‸←1", "x[1]+‸←1", "F+‸←1", "F x‸←1", "∇‸←1", "+‸←1", "x++‸←1",
		"F←{⍵}‸←1", "F←‸G←{⍵}", "x←‸←1", "x←F‸←{⍵}", "(F‸←{⍵})", "{x←y‸←1}2", "{‸←}1",
	} {
		wantRefused(t, line)
	}
}

func TestParseFirstTokenWithWhichNoLineCanGoOn(t *testing.T) {
	for _, line := range []string{
		"‸)", "‸]", "‸}", "‸;", "‸⋄", "‸:", "‸.", "‸\\", "‸⍀", "x‸)", "x‸]", "x‸}", "x‸;", "x‸.", "(‸)", "(x‸]", "(x‸⋄", "(x‸;", "‸[", "x[‸)", "x[1‸)", "x[1;‸}", "x[1‸⋄", "x[;‸⋄",
		"x ‸y", "x ‸1", "x‸'a'", "1‸'a'", "1 2 ‸x", "'a' ‸'b'", "'a' ‸1", "⍵‸⍵", "⍬ ‸1", "x‸(1)", "(1)‸2", "x[1]‸y", "x[1]‸2", "1 2‸(3)", "∇‸)", "x+‸)", "x+‸⋄", "x⋄‸⋄", "x⋄‸)",
		"F←‸3", "F←‸x", "F←‸+", "F←‸(", "F←{⍵}‸x", "F←{⍵}‸[", "F←{⍵}‸+", "F←{⍵‸)", "F‸[1]", "F‸)", "x←‸)", "x←‸⋄", "x+.‸x", "x+.‸.", "x+.‸/", "∘‸+", "∘‸∘", "∘.‸∘", "∘.‸x", "∘.‸/", "x∘.+‸.×y",
		"{⍵‸;", "{‸)", "{⍵⋄‸)", "{⍵‸]", "+‸]", "{}‸⋄x", "{}‸}", "{⍵}‸)", "x[1]←‸]", "x[1‸}]←2", "x[(1‸]]←2", "x[{1‸]}2]←3", "x[‸[]]←2",
	} {
		wantRefused(t, line)
		wantRefused(t, "x←1 ⋄ "+line)
		wantRefused(t, line+" ) ← ⍝ what stands behind does not count")
	}
}

func TestParseLinesThatEndTooEarly(t *testing.T) {
	for _, line := range []string{
		"(", "((", "(x", "(x+", "x[", "x[1", "x[1;", "x[;", "x+", "+", "+/", `+\`, "+.", "+.×", "∘", "∘.", "∘.+", "x∘.+", "F", "x F", "∇", "{", "{}", "{⍵", "{⍵}", "{⍵⋄", "{⍵:", "{⍵:1", "{⍵:1⋄",
		"x←", "F←", "F←{", "F←{⍵", "x[1]←", "x[]←", "x+←", "(⌽x)←", "(x[1])←", "x⋄", "x←1⋄", "F←{⍵}⋄", "/", "x/", "x⍴", "x←1+", "((x)", "x[(1", "1 2+", "'a',", "{x←",
	} {
		wantParseFault(t, line, impl.ErrSyntax, len(line))
		for _, behind := range []string{" ", "\t ", "⍝", " ⍝ )← \xff"} {
			wantParseFault(t, line+behind, impl.ErrSyntax, len(line+behind))
		}
	}
}

func TestParseHandsOnWhatLexSays(t *testing.T) {
	for _, line := range []string{
		"@", "x @", ") @", "x←3a", "x←) 3a", "'a", "⋄'a", "1000000000000001", ") 1000000000000001", "x←¯", "\xff", "(\xff", "'a\n'", "aaaaaaaaaaaaaaaaaaaaa", strings.Repeat(" ", impl.MaxLine+1), strings.Repeat(")", impl.MaxLine+1),
	} {
		_, code, at := impl.Lex([]byte(line))
		if code == 0 {
			t.Fatalf("Lex(%q) has no code", line)
		}
		wantParseFault(t, line, code, at)
	}
	wantParseFault(t, "x @", impl.ErrSyntax, 2)
	wantParseFault(t, ")) 1000000000000001", impl.ErrLimit, 3)
}

// partsLine has just so many nodes.
func partsLine(nodes int) string {
	return "x[" + strings.Repeat(";", nodes-4) + "]"
}

func TestParseLimits(t *testing.T) {
	tree, code, at := impl.Parse([]byte(partsLine(impl.MaxNodes)))
	if code != 0 || at != 0 || len(tree.Nodes) != impl.MaxNodes {
		t.Errorf("%d nodes: %d, %d, %d", impl.MaxNodes, len(tree.Nodes), code, at)
	}
	wantParseFault(t, partsLine(impl.MaxNodes+1), impl.ErrLimit, 0)
	wantParseFault(t, "  "+partsLine(impl.MaxLine-10), impl.ErrLimit, 0)
	for _, c := range []struct{ front, mid, back string }{
		{"-", "x", ""}, {"x+", "x", ""}, {"x[", "1", "]"}, {"(", "x", "+1)"}, {"{", "⍵", "}1"},
	} {
		steps := impl.MaxTall - 1
		line := func(count int) string {
			return strings.Repeat(c.front, count) + c.mid + strings.Repeat(c.back, count)
		}
		if c.front == "{" {
			// The function in braces is a step of its own.
			steps = (impl.MaxTall - 1) / 2
		}
		if _, code, at := impl.Parse([]byte(line(steps))); code != 0 || at != 0 {
			t.Errorf("%q: %d, %d", line(steps), code, at)
		}
		wantParseFault(t, line(steps+1), impl.ErrLimit, 0)
		wantParseFault(t, line(steps+1)+")", impl.ErrSyntax, len(line(steps+1)))
	}
	wantTree(t, strings.Repeat("(", 999)+"x"+strings.Repeat(")", 999), wLow("x"))
	wantParseFault(t, strings.Repeat("(", impl.MaxLine), impl.ErrSyntax, impl.MaxLine)
	wantParseFault(t, strings.Repeat("{", impl.MaxLine), impl.ErrSyntax, impl.MaxLine)
	wantParseFault(t, strings.Repeat("x[", impl.MaxLine/2), impl.ErrSyntax, impl.MaxLine)
	wantParseFault(t, strings.Repeat("-", impl.MaxLine), impl.ErrSyntax, impl.MaxLine)
	wantParseFault(t, strings.Repeat("-", impl.MaxLine-1)+"x", impl.ErrLimit, 0)
	wantParseFault(t, strings.Repeat("-", impl.MaxLine-2)+"x)", impl.ErrSyntax, impl.MaxLine-1)
}

func TestParseLeavesItsArgumentAlone(t *testing.T) {
	line := []byte("F←{⍵[1;]:'it''s'⋄∇⍵+1 2}⋄(2↑abc)←3⋄x[;1]←⍬")
	before := string(line)
	first, _, _ := impl.Parse(line)
	if string(line) != before {
		t.Fatalf("the line became %q", line)
	}
	for i := range line {
		line[i] = '@'
	}
	second, _, _ := impl.Parse([]byte(before))
	if !sameTree(first, second) {
		t.Errorf("the tree hangs on the line behind the call: %+v, %+v", first, second)
	}
}

func TestParseListsShareNothing(t *testing.T) {
	line := []byte("x[1 2;3 4;][5;;6]⋄{1⋄2⋄3⋄x}4 5 6⋄y[1;2;3;4;5]←7 8 9")
	want, _, _ := impl.Parse(line)
	want = copyTree(want)
	tree, _, _ := impl.Parse(line)
	for i, n := range tree.Nodes {
		for _, list := range [][]int{n.Nums[:cap(n.Nums)], n.Kids[:cap(n.Kids)]} {
			before := append([]int(nil), list...)
			for k := range list {
				list[k] = -77
			}
			for j, other := range tree.Nodes {
				if j != i && !sameNode(other, want.Nodes[j]) {
					t.Fatalf("the lists of nodes %d and %d share memory", i, j)
				}
			}
			copy(list, before)
		}
	}
}
