package tests

import (
	"bytes"
	"strings"
	"testing"

	"loop.example/s02542/impl"
)

// wantText holds the text of a tree, and the tree of this text.
func wantText(t *testing.T, want string, stmts ...twig) {
	t.Helper()
	tree := flat(wLine(stmts...))
	got, ok := impl.Unparse(tree)
	if !ok || string(got) != want {
		t.Errorf("Unparse(%+v) = %q, %v; want %q", tree.Nodes, got, ok, want)
	}
	wantTree(t, want, stmts...)
}

func TestUnparseLeaves(t *testing.T) {
	wantText(t, "")
	wantText(t, "0", wNums(0))
	wantText(t, "1 ¯2 30", wNums(1, -2, 30))
	wantText(t, "1000000000000000 ¯1000000000000000", wNums(impl.MaxInt, -impl.MaxInt))
	wantText(t, "''", wText(""))
	wantText(t, "'it''s'", wText("it's"))
	wantText(t, "''''", wText("'"))
	wantText(t, "'⍝ ← 1 x'", wText("⍝ ← 1 x"))
	wantText(t, "x", wLow("x"))
	wantText(t, "⍺⋄⍵⋄⍬", wLeft(), wRight(), wNone())
}

func TestUnparseFunctions(t *testing.T) {
	x, y := wLow("x"), wLow("y")
	for i, s := range primSigns {
		wantText(t, s+"x", wMonad(wPrim(i+1), x))
		wantText(t, "y"+s+"x", wDyad(y, wPrim(i+1), x))
	}
	for i, s := range primSigns[:impl.FnOr] {
		n := i + 1
		wantText(t, s+"/x", wMonad(wReduce(n, 0), x))
		wantText(t, s+"⌿x", wMonad(wReduce(n, 1), x))
		wantText(t, s+`\x`, wMonad(wScan(n, 0), x))
		wantText(t, s+"⍀x", wMonad(wScan(n, 1), x))
		wantText(t, "∘."+s+"x", wMonad(wOuter(n), x))
		wantText(t, "y∘."+s+"x", wDyad(y, wOuter(n), x))
		wantText(t, "x"+s+"←y", wModify("x", n, y))
		for j, u := range primSigns[:impl.FnOr] {
			wantText(t, "y"+s+"."+u+"x", wDyad(y, wInner(n, j+1), x))
		}
	}
	wantText(t, "∇x", wMonad(wSelf(), x))
	wantText(t, "⍺∇⍵", wDyad(wLeft(), wSelf(), wRight()))
	wantText(t, "{}x", wMonad(wBraces(), x))
	wantText(t, "{x⋄y}x", wMonad(wBraces(x, y), x))
	wantText(t, "y{x:y⋄x←y}x", wDyad(y, wBraces(wGuard(x, y), wAssign("x", y)), x))
	wantText(t, "{{}⍵⋄⍵}x", wMonad(wBraces(wMonad(wBraces(), wRight()), wRight()), x))
}

func TestUnparseStmts(t *testing.T) {
	x, one, no := wLow("x"), wNums(1), wNoPart()
	wantText(t, "x⋄x⋄1", x, x, one)
	wantText(t, "x←1", wAssign("x", one))
	wantText(t, "F←{}", wDefine("F", wBraces()))
	wantText(t, "F←{⍵=0:1⋄∇⍵-1}", wDefine("F", wBraces(
		wGuard(wDyad(wRight(), wPrim(impl.FnEq), wNums(0)), one),
		wMonad(wSelf(), wDyad(wRight(), wPrim(impl.FnSub), one)))))
	wantText(t, "x[]←1", wParts("x", no, one))
	wantText(t, "x[1;;x]←x", wParts("x", one, no, x, x))
	wantText(t, "(x[])←1", wChoose(wIndex(x, no), one))
	wantText(t, "((⌽x)[1])←1", wChoose(wIndex(wMonad(wPrim(impl.FnRev), x), one), one))
	wantText(t, "(1↑,x)←1", wChoose(wDyad(one, wPrim(impl.FnTake), wMonad(wPrim(impl.FnCat), x)), one))
	wantText(t, "x[;]", wIndex(x, no, no))
	wantText(t, "x[1][;x]", wIndex(wIndex(x, one), no, x))
}

func TestUnparseBracketsThatAreNeeded(t *testing.T) {
	x, one, f := wLow("x"), wNums(1), wPrim(impl.FnTake)
	add, repeat, repeatF := wPrim(impl.FnAdd), wPrim(impl.FnRep), wPrim(impl.FnRepF)
	monad, dyad := wMonad(add, x), wDyad(x, add, one)
	wantText(t, "(+x)↑1", wDyad(monad, f, one))
	wantText(t, "(x+1)↑1", wDyad(dyad, f, one))
	wantText(t, "((x+1)+1)↑1", wDyad(wDyad(dyad, add, one), f, one))
	wantText(t, "(+x)[1]", wIndex(monad, one))
	wantText(t, "(x+1)[1]", wIndex(dyad, one))
	wantText(t, "(x+1)[1][]", wIndex(wIndex(dyad, one), wNoPart()))
	wantText(t, "(x F x)F x", wDyad(wDyad(x, wHigh("F"), x), wHigh("F"), x))
	for i, s := range primSigns {
		b, bF := wMonad(repeat, x), wMonad(repeatF, x)
		if i+1 <= impl.FnOr {
			wantText(t, s+"(/x)", wMonad(wPrim(i+1), b))
			wantText(t, s+"(⌿x)", wMonad(wPrim(i+1), bF))
			wantText(t, "1"+s+"(/x)", wDyad(one, wPrim(i+1), b))
			wantText(t, "1"+s+"(⌿x)", wDyad(one, wPrim(i+1), bF))
			wantText(t, s+"(/x+1)", wMonad(wPrim(i+1), wMonad(repeat, dyad)))
			wantText(t, s+"(/"+s+"(⌿x))", wMonad(wPrim(i+1), wMonad(repeat, wMonad(wPrim(i+1), bF))))
		} else {
			wantText(t, s+"/x", wMonad(wPrim(i+1), b))
			wantText(t, "1"+s+"⌿x", wDyad(one, wPrim(i+1), bF))
		}
	}
}

func TestUnparseBracketsThatAreNot(t *testing.T) {
	x, y, one := wLow("x"), wLow("y"), wNums(1)
	add, repeat := wPrim(impl.FnAdd), wPrim(impl.FnRep)
	monad, dyad, replicated := wMonad(add, x), wDyad(x, add, one), wMonad(repeat, x)
	for _, a := range []struct {
		text string
		leaf twig
	}{
		{"1 2", wNums(1, 2)}, {"'a'", wText("a")}, {"x", x}, {"⍺", wLeft()}, {"⍵", wRight()}, {"⍬", wNone()}, {"x[1]", wIndex(x, one)},
	} {
		wantText(t, a.text+"+y", wDyad(a.leaf, add, y))
		wantText(t, a.text+"[1]", wIndex(a.leaf, one))
		wantText(t, "y+"+a.text, wDyad(y, add, a.leaf))
		wantText(t, "+"+a.text, wMonad(add, a.leaf))
	}
	wantText(t, "y++x", wDyad(y, add, monad))
	wantText(t, "y+x+1", wDyad(y, add, dyad))
	wantText(t, "+x+1", wMonad(add, dyad))
	wantText(t, "++x", wMonad(add, monad))
	wantText(t, "x[+x;x+1;/x]", wIndex(x, monad, dyad, replicated))
	wantText(t, "y←x+1⋄y[+x]←+x⋄y+←+x⋄y+←/x", wAssign("y", dyad), wParts("y", monad, monad), wModify("y", 1, monad), wModify("y", 1, replicated))
	wantText(t, "{+x:x+1⋄/x:/x}1", wMonad(wBraces(wGuard(monad, dyad), wGuard(replicated, replicated)), one))
	wantText(t, "+x/y", wMonad(add, wDyad(x, repeat, y)))
	wantText(t, "y+1/y", wDyad(y, add, wDyad(one, repeat, y)))
	for _, f := range []struct {
		text string
		f    twig
	}{
		{"-/", wReduce(2, 0)}, {"-⌿", wReduce(2, 1)}, {`-\`, wScan(2, 0)}, {"-⍀", wScan(2, 1)}, {"∘.-", wOuter(2)}, {"+.-", wInner(1, 2)}, {"{⍵}", wBraces(wRight())}, {"∇", wSelf()}, {"F", wHigh("F")}, {"⍴", wPrim(impl.FnRho)},
	} {
		wantText(t, f.text+"/x", wMonad(f.f, replicated))
		wantText(t, "⍵"+f.text+"/x", wDyad(wRight(), f.f, replicated))
		if f.text != "F" {
			wantText(t, "+"+f.text+"x", wMonad(add, wMonad(f.f, x)))
		}
	}
	wantText(t, "+F x", wMonad(add, wMonad(wHigh("F"), x)))
	wantText(t, "+(/x)+1", wMonad(add, wDyad(replicated, add, one)))
	wantText(t, "+(/x)[1]", wMonad(add, wIndex(replicated, one)))
}

func TestUnparseBlanks(t *testing.T) {
	x, f, one := wLow("x"), wHigh("F"), wNums(1)
	wantText(t, "F x", wMonad(f, x))
	wantText(t, "F 1", wMonad(f, one))
	wantText(t, "F ¯1", wMonad(f, wNums(-1)))
	wantText(t, "F'a'", wMonad(f, wText("a")))
	wantText(t, "F⍵", wMonad(f, wRight()))
	wantText(t, "F F x", wMonad(f, wMonad(f, x)))
	wantText(t, "x F x", wDyad(x, f, x))
	wantText(t, "1 F 1 2", wDyad(one, f, wNums(1, 2)))
	wantText(t, "1 2 F'a'", wDyad(wNums(1, 2), f, wText("a")))
	wantText(t, "'a'F x", wDyad(wText("a"), f, x))
	wantText(t, "⍵F⍵", wDyad(wRight(), f, wRight()))
	wantText(t, "x[1]F x[1]", wDyad(wIndex(x, one), f, wIndex(x, one)))
	wantText(t, "F(x+1)F 1", wMonad(f, wDyad(wDyad(x, wPrim(1), one), f, one)))
	wantText(t, "1+1", wDyad(one, wPrim(1), one))
	wantText(t, "x←x⋄x", wAssign("x", x), x)
	wantText(t, "F{x}x", wMonad(f, wMonad(wBraces(x), x)))
	wantText(t, "x[1 2;x]", wIndex(x, wNums(1, 2), x))
}

func TestUnparseWritesLessThanWasRead(t *testing.T) {
	for line, want := range map[string]string{
		"  x  ←  ( ( 1 ) )  ⍝ c": "x←1", "x + ( y )": "x+y", "x+(y+(z))": "x+y+z", "( ( x[ ( 1 ) ; ] ) )[ ]": "x[1;][]", "007 ¯0": "7 0", "F (x)": "F x", "(1 2) + (3)": "1 2+3",
		"(+x)": "+x", "x←(+x)": "x←+x", "x[(+x)]": "x[+x]", "-(+/x)": "-+/x", "-(/x)": "-(/x)", "⌽(/x)": "⌽/x", "+/(/x)": "+//x", "x∘.+(/y)": "x∘.+/y", "{ ( ⍵ ) : ( 1 ) ⋄ ( ⍵ ) } x": "{⍵:1⋄⍵}x",
		"((⌽x))←(1)": "(⌽x)←1", "(((x)[1]))←1": "(x[1])←1", "+ / x": "+/x", "x + . × y": "x+.×y", "x ∘ . × y": "x∘.×y",
	} {
		tree, code, _ := impl.Parse([]byte(line))
		got, ok := impl.Unparse(tree)
		if code != 0 || !ok || string(got) != want {
			t.Errorf("%q: %d, %q, %v; want %q", line, code, got, ok, want)
		}
	}
}

// TestUnparseOfMuch has texts that are longer than a line may be: the tree is valid all the same.
func TestUnparseOfMuch(t *testing.T) {
	long := strings.Repeat("a", impl.MaxLine-2)
	got, ok := impl.Unparse(flat(wLine(wText(long), wText(long))))
	if !ok || string(got) != "'"+long+"'⋄'"+long+"'" {
		t.Errorf("two long texts: %d bytes, %v", len(got), ok)
	}
	wantParseFault(t, string(got), impl.ErrLimit, 0)
	wantText(t, "'"+long+"'", wText(long))
}

func TestUnparseAnswersAreNew(t *testing.T) {
	tree := flat(wLine(wAssign("x", wDyad(wNums(1, 2), wHigh("F"), wText("a")))))
	before := copyTree(tree)
	first, _ := impl.Unparse(tree)
	want := bytes.Clone(first)
	for i := range first[:cap(first)] {
		first[:cap(first)][i] = '@'
	}
	second, _ := impl.Unparse(tree)
	if !bytes.Equal(second, want) || !sameTree(tree, before) {
		t.Errorf("%q, %q; %+v, %+v", second, want, tree, before)
	}
}
