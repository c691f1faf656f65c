package tests

import (
	"math"
	"strings"
	"testing"

	"loop.example/s02542/impl"
)

func wantValid(t *testing.T, why string, tree impl.Tree) {
	t.Helper()
	before := copyTree(tree)
	if !impl.TreeOk(tree) {
		t.Errorf("%s: TreeOk(%+v) is false", why, tree.Nodes)
	}
	if _, ok := impl.Unparse(tree); !ok {
		t.Errorf("%s: Unparse(%+v) is false", why, tree.Nodes)
	}
	if !sameTree(tree, before) {
		t.Errorf("%s: %+v became %+v", why, before.Nodes, tree.Nodes)
	}
}

func wantInvalid(t *testing.T, why string, tree impl.Tree) {
	t.Helper()
	before := copyTree(tree)
	if impl.TreeOk(tree) {
		t.Errorf("%s: TreeOk(%+v) is true", why, tree.Nodes)
	}
	if text, ok := impl.Unparse(tree); ok || len(text) != 0 {
		t.Errorf("%s: Unparse(%+v) = %q, %v", why, tree.Nodes, text, ok)
	}
	if !sameTree(tree, before) {
		t.Errorf("%s: %+v became %+v", why, before.Nodes, tree.Nodes)
	}
}

// one gives a valid twig of each kind.
func one(kind int) twig {
	x := wLow("x")
	return []twig{
		{}, wNums(1), wText("a"), x, wLeft(), wRight(), wNone(), wIndex(x, wNums(1)), wNoPart(), wMonad(wPrim(1), x), wDyad(x, wPrim(1), x),
		wPrim(1), wReduce(1, 0), wScan(1, 0), wOuter(1), wInner(1, 1), wBraces(x), wHigh("F"), wSelf(),
		wAssign("x", x), wDefine("F", wBraces()), wParts("x", x, x), wModify("x", 1, x), wChoose(wMonad(wPrim(impl.FnRev), x), x), wGuard(x, x), wLine(),
	}[kind]
}

func kindsWithin(ranges ...int) map[int]int {
	kinds := map[int]int{}
	for i := 0; i < len(ranges); i += 2 {
		for k := ranges[i]; k <= ranges[i+1]; k++ {
			kinds[k] = 1
		}
	}
	return kinds
}

// TestTreeOkKidsOfEachKind puts each kind at each place at which a kid stands.
func TestTreeOkKidsOfEachKind(t *testing.T) {
	x := wLow("x")
	exprs, parts := kindsWithin(1, 7, 9, 10), kindsWithin(1, 10)
	functions, stmts, items := kindsWithin(11, 18), kindsWithin(1, 7, 9, 10, 19, 23), kindsWithin(1, 7, 9, 10, 19, 24)
	for why, c := range map[string]struct {
		kinds map[int]int
		put   func(kid twig) twig
	}{
		"index of":          {exprs, func(w twig) twig { return wIndex(w, x) }},
		"part":              {parts, func(w twig) twig { return wIndex(x, w) }},
		"part, second":      {parts, func(w twig) twig { return wIndex(x, x, w, x) }},
		"f of f b":          {functions, func(w twig) twig { return wMonad(w, x) }},
		"b of f b":          {exprs, func(w twig) twig { return wMonad(wPrim(1), w) }},
		"a of a f b":        {exprs, func(w twig) twig { return wDyad(w, wPrim(1), x) }},
		"f of a f b":        {functions, func(w twig) twig { return wDyad(x, w, x) }},
		"b of a f b":        {exprs, func(w twig) twig { return wDyad(x, wPrim(1), w) }},
		"item":              {items, func(w twig) twig { return wMonad(wBraces(w), x) }},
		"item, last":        {items, func(w twig) twig { return wMonad(wBraces(x, x, w), x) }},
		"b of S←b":          {exprs, func(w twig) twig { return wAssign("x", w) }},
		"f of S←f":          {kindsWithin(16, 16), func(w twig) twig { return wDefine("F", w) }},
		"part of S[..]←b":   {parts, func(w twig) twig { return wParts("x", w, x) }},
		"part of S[..]←b 2": {parts, func(w twig) twig { return wParts("x", x, w, x) }},
		"b of S[..]←b":      {exprs, func(w twig) twig { return wParts("x", x, w) }},
		"b of Sf←b":         {exprs, func(w twig) twig { return wModify("x", 1, w) }},
		"b of (a)←b":        {exprs, func(w twig) twig { return wChoose(wIndex(x, x), w) }},
		"a of (a)←b":        {kindsWithin(7, 7), func(w twig) twig { return wChoose(w, x) }},
		"a of a:b":          {exprs, func(w twig) twig { return wMonad(wBraces(wGuard(w, x)), x) }},
		"b of a:b":          {exprs, func(w twig) twig { return wMonad(wBraces(wGuard(x, w)), x) }},
		"stmt":              {stmts, func(w twig) twig { return w }},
	} {
		for kind := 1; kind <= 25; kind++ {
			tree := flat(wLine(x, c.put(one(kind)), x))
			if c.kinds[kind] == 1 {
				wantValid(t, why, tree)
			} else {
				wantInvalid(t, why, tree)
			}
		}
	}
}

func TestTreeOkNumberOfKids(t *testing.T) {
	x, f := wLow("x"), wPrim(1)
	ok := func(why string, w twig) { t.Helper(); wantValid(t, why, flat(wLine(w))) }
	no := func(why string, w twig) { t.Helper(); wantInvalid(t, why, flat(wLine(w))) }
	ok("index with one part", wIndex(x, x))
	no("index without part", bare(7, x))
	no("index without anything", bare(7))
	no("f b without b", bare(9, f))
	no("f b with two b", bare(9, f, x, x))
	no("f b in the other order", bare(9, x, f))
	no("f b without anything", bare(9))
	no("a f b without b", bare(10, x, f))
	no("a f b without a", bare(10, f, x))
	no("a f b with two b", bare(10, x, f, x, x))
	no("a f b in the order of f a b", bare(10, f, x, x))
	no("a f b in the order of a b f", bare(10, x, x, f))
	no("a f b without anything", bare(10))
	ok("no item", wMonad(wBraces(), x))
	no("S←b without b", twig{node: impl.Node{K: 19, S: "x"}})
	no("S←b with two", twig{impl.Node{K: 19, S: "x"}, []twig{x, x}})
	no("S←f without f", twig{node: impl.Node{K: 20, S: "F"}})
	no("S←f with two", twig{impl.Node{K: 20, S: "F"}, []twig{wBraces(), wBraces()}})
	no("S[..]←b with b alone", wParts("x", x))
	no("S[..]←b without anything", wParts("x"))
	no("S[..]←b without b", wParts("x", wNoPart(), wNoPart()))
	no("Sf←b without b", twig{node: impl.Node{K: 22, S: "x", N: 1}})
	no("Sf←b with a node for f", twig{impl.Node{K: 22, S: "x", N: 1}, []twig{f, x}})
	no("(a)←b without b", bare(23, wIndex(x, x)))
	no("(a)←b without anything", bare(23))
	no("(a)←b with two b", bare(23, wIndex(x, x), x, x))
	no("(a)←b in the other order", bare(23, x, wIndex(x, x)))
	no("a:b without b", wMonad(wBraces(bare(24, x)), x))
	no("a:b without anything", wMonad(wBraces(bare(24)), x))
	no("a:b with two b", wMonad(wBraces(bare(24, x, x, x)), x))
	for _, kind := range []int{1, 2, 3, 4, 5, 6, 8, 11, 12, 13, 14, 15, 17, 18} {
		leaf := one(kind)
		leaf.kids = []twig{x}
		for why, w := range map[string]twig{"an expr with a kid": leaf, "a part with a kid": wIndex(x, leaf), "a function with a kid": wMonad(leaf, x)} {
			no(why, w)
		}
	}
}

func TestTreeOkFields(t *testing.T) {
	within := map[int]func(twig) twig{}
	x := wLow("x")
	for kind := 1; kind <= 24; kind++ {
		within[kind] = func(w twig) twig { return wLine(w) }
		switch {
		case kind == 8:
			within[kind] = func(w twig) twig { return wLine(wIndex(x, w)) }
		case 11 <= kind && kind <= 18:
			within[kind] = func(w twig) twig { return wLine(wMonad(w, x)) }
		case kind == 24:
			within[kind] = func(w twig) twig { return wLine(wMonad(wBraces(w), x)) }
		}
	}
	within[25] = func(w twig) twig { return w }
	scalar, any33, zero, flag := [2]int{1, 16}, [2]int{1, 33}, [2]int{0, 0}, [2]int{0, 1}
	boundsN := map[int][2]int{11: any33, 12: scalar, 13: scalar, 14: scalar, 15: scalar, 22: scalar}
	boundsM := map[int][2]int{12: flag, 13: flag, 15: scalar}
	for kind := 1; kind <= 25; kind++ {
		wantValid(t, "as it is", flat(within[kind](one(kind))))
		nBounds, mBounds := zero, zero
		if b, ok := boundsN[kind]; ok {
			nBounds = b
		}
		if b, ok := boundsM[kind]; ok {
			mBounds = b
		}
		values := []int{math.MinInt, -1000, math.MaxInt, 1000}
		for n := -2; n <= 35; n++ {
			values = append(values, n)
		}
		for _, n := range values {
			w := one(kind)
			w.node.N = n
			wantValidIf(t, nBounds[0] <= n && n <= nBounds[1], "N", flat(within[kind](w)))
			w = one(kind)
			w.node.M = n
			wantValidIf(t, mBounds[0] <= n && n <= mBounds[1], "M", flat(within[kind](w)))
		}
		w := one(kind)
		w.node.Nums = append(w.node.Nums, 0)
		wantValidIf(t, kind == 1, "Nums", flat(within[kind](w)))
		for s, isOf := range fieldTexts() {
			w := one(kind)
			w.node.S = s
			wantValidIf(t, isOf[kind] == 1, "S", flat(within[kind](w)))
		}
	}
}

func wantValidIf(t *testing.T, valid bool, why string, tree impl.Tree) {
	t.Helper()
	if valid {
		wantValid(t, why, tree)
	} else {
		wantInvalid(t, why, tree)
	}
}

// fieldTexts gives texts, and by kind whether a node of the kind may have it as its S.
func fieldTexts() map[string]map[int]int {
	low, high, no := []int{3, 19, 21, 22}, []int{17, 20}, []int{}
	texts := map[string]map[int]int{}
	add := func(s string, isText bool, kinds ...int) {
		texts[s] = map[int]int{}
		for _, k := range kinds {
			texts[s][k] = 1
		}
		if isText {
			texts[s][2] = 1
		}
	}
	add("", true, 1, 4, 5, 6, 7, 8, 9, 10, 11, 12, 13, 14, 15, 16, 18, 23, 24, 25)
	for _, s := range []string{"a", "z", "m", "aZ09", "a" + strings.Repeat("9", impl.MaxName-1), strings.Repeat("z", impl.MaxName)} {
		add(s, true, low...)
	}
	for _, s := range []string{"A", "Z", "M", "Az09", "Z" + strings.Repeat("z", impl.MaxName-1)} {
		add(s, true, high...)
	}
	for _, s := range []string{
		"'", "it's", "a b", " a", "a ", "1", "1a", "¯1", "_", "a_", "é", "aé", "⍝", "a⍝", "+", "⍵", "x←1", "\t", "\x00", "\uFFFD", "a\r", "`", "{", "@", "[",
		strings.Repeat("a", impl.MaxName+1), strings.Repeat("A", impl.MaxName+1), strings.Repeat("a", impl.MaxLine-2), strings.Repeat("'", impl.MaxLine/2-1),
	} {
		add(s, true, no...)
	}
	for _, s := range []string{
		"\n", "a\n", "A\n", "\xff", "a\xff", "\xc1\x81", "\xed\xa0\x80", "\xf4\x90\x80\x80", "⍝"[:2],
		strings.Repeat("a", impl.MaxLine-1), strings.Repeat("'", impl.MaxLine/2),
	} {
		add(s, false, no...)
	}
	return texts
}

func TestTreeOkNumbers(t *testing.T) {
	for _, n := range []int{0, 1, -1, impl.MaxInt, -impl.MaxInt} {
		wantValid(t, "number", flat(wLine(wNums(n))))
		wantValid(t, "numbers", flat(wLine(wNums(1, n, 2))))
	}
	for _, n := range []int{impl.MaxInt + 1, -impl.MaxInt - 1, math.MaxInt, math.MinInt} {
		wantInvalid(t, "number", flat(wLine(wNums(n))))
		wantInvalid(t, "last number", flat(wLine(wNums(1, n))))
		wantInvalid(t, "first number", flat(wLine(wNums(n, 1))))
	}
	wantInvalid(t, "no number", flat(wLine(wNums())))
	wantInvalid(t, "no number", flat(wLine(wNums([]int{}...))))
	many := make([]int, 5000)
	wantValid(t, "many numbers", flat(wLine(wNums(many...))))
	many[4999] = impl.MaxInt + 1
	wantInvalid(t, "many numbers", flat(wLine(wNums(many...))))
}

func TestTreeOkKinds(t *testing.T) {
	for _, k := range []int{0, -1, 26, 100, math.MaxInt, math.MinInt} {
		wantInvalid(t, "root", impl.Tree{Nodes: []impl.Node{{K: k}}})
		wantInvalid(t, "stmt", flat(wLine(bare(k))))
		wantInvalid(t, "function", flat(wLine(wMonad(bare(k), wLow("x")))))
		wantInvalid(t, "part", flat(wLine(wIndex(wLow("x"), bare(k)))))
	}
}

func TestTreeOkRoot(t *testing.T) {
	x := wLow("x")
	wantInvalid(t, "no nodes", impl.Tree{})
	wantInvalid(t, "no nodes", impl.Tree{Nodes: []impl.Node{}})
	wantValid(t, "an empty line", impl.Tree{Nodes: []impl.Node{{K: 25}}})
	for kind := 1; kind <= 24; kind++ {
		wantInvalid(t, "root is no line", flat(one(kind)))
	}
	wantInvalid(t, "a line in a line", flat(wLine(wLine())))
	wantInvalid(t, "a line in a line", flat(wLine(x, wLine(x), x)))
	wantInvalid(t, "a line in braces", flat(wLine(wMonad(wBraces(wLine(x)), x))))
	wantInvalid(t, "two roots", impl.Tree{Nodes: []impl.Node{{K: 25}, {K: 25}}})
	wantInvalid(t, "a node that is nobody's kid", impl.Tree{Nodes: []impl.Node{{K: 6}, {K: 25}}})
	wantInvalid(t, "a node that is nobody's kid", impl.Tree{Nodes: []impl.Node{{K: 6}, {K: 6}, {K: 25, Kids: []int{1}}}})
	wantInvalid(t, "a node behind the root", impl.Tree{Nodes: []impl.Node{{K: 25}, {K: 6}}})
}

func TestTreeOkOrder(t *testing.T) {
	node := func(k int, kids ...int) impl.Node { return impl.Node{K: k, Kids: kids} }
	prim := impl.Node{K: 11, N: impl.FnRev}
	// ⍬⌽⌽⍬ ⋄ ⍬, whose leaves of one kind may not be told apart when they are swapped.
	good := []impl.Node{node(6), prim, prim, node(6), node(9, 2, 3), node(10, 0, 1, 4), node(6), node(25, 5, 6)}
	wantValid(t, "as it is", impl.Tree{Nodes: good})
	for _, c := range []struct {
		why  string
		at   int
		kids []int
	}{
		{"kids turned round", 7, []int{6, 5}}, {"the first kid missing", 7, []int{6}}, {"the last kid missing", 7, []int{5}}, {"no kids", 7, nil},
		{"a kid twice", 7, []int{5, 6, 6}}, {"a kid twice", 7, []int{5, 5, 6}}, {"a kid of a kid", 7, []int{4, 5, 6}}, {"a kid of a kid", 7, []int{4, 6}},
		{"itself", 7, []int{5, 6, 7}}, {"itself", 7, []int{7}}, {"behind it", 7, []int{5, 8}}, {"below 0", 7, []int{-1, 5, 6}}, {"far below 0", 7, []int{math.MinInt, 5, 6}},
		{"far above", 7, []int{5, math.MaxInt}}, {"below 0 alone", 7, []int{-1}},
		{"a wider stretch", 5, []int{1, 2, 4}}, {"a gap", 5, []int{0, 1, 3}}, {"a gap", 5, []int{0, 2, 4}}, {"a kid of another", 4, []int{1, 3}},
		{"in front of the first", 4, []int{2, 3, 3}}, {"the kids in another order", 5, []int{1, 0, 4}}, {"a later node", 4, []int{2, 5}},
	} {
		bad := copyTree(impl.Tree{Nodes: good})
		bad.Nodes[c.at].Kids = c.kids
		wantInvalid(t, c.why, bad)
	}
	for i := range good {
		short := append(append([]impl.Node{}, good[:i]...), good[i+1:]...)
		wantInvalid(t, "a node missing", impl.Tree{Nodes: short})
		for j := range i {
			if sameNode(good[i], good[j]) {
				continue
			}
			swapped := append([]impl.Node{}, good...)
			swapped[i], swapped[j] = swapped[j], swapped[i]
			wantInvalid(t, "two nodes swapped", impl.Tree{Nodes: swapped})
		}
	}
	wantInvalid(t, "a kid in front of place 0", impl.Tree{Nodes: []impl.Node{{K: 25, Kids: []int{-1}}}})
	wantInvalid(t, "itself alone", impl.Tree{Nodes: []impl.Node{{K: 25, Kids: []int{0}}}})
	wantInvalid(t, "kids with nobody there", impl.Tree{Nodes: []impl.Node{{K: 6}, {K: 25, Kids: []int{-1, 0}}}})
}

func TestTreeOkNumberOfNodes(t *testing.T) {
	stmts := func(nodes int) impl.Tree {
		var out []twig
		for range nodes - 1 {
			out = append(out, wNone())
		}
		return flat(wLine(out...))
	}
	wantValid(t, "MaxNodes", stmts(impl.MaxNodes))
	wantInvalid(t, "one more", stmts(impl.MaxNodes+1))
	wantInvalid(t, "many more", stmts(10*impl.MaxNodes))
}

func TestTreeOkHeight(t *testing.T) {
	for why, wrap := range map[string]func(twig) twig{
		"monad":        func(w twig) twig { return wMonad(wPrim(1), w) },
		"dyad, left":   func(w twig) twig { return wDyad(w, wPrim(1), wNone()) },
		"dyad, right":  func(w twig) twig { return wDyad(wNone(), wPrim(1), w) },
		"index":        func(w twig) twig { return wIndex(w, wNoPart()) },
		"part":         func(w twig) twig { return wIndex(wNone(), w, wNone()) },
		"part, second": func(w twig) twig { return wIndex(wNone(), wNone(), w) },
	} {
		w := wNone()
		for range impl.MaxTall - 1 {
			w = wrap(w)
		}
		wantValid(t, why, flat(wLine(w)))
		wantValid(t, why, flat(wLine(wNone(), w, wNone())))
		wantInvalid(t, why, flat(wLine(wrap(w))))
		wantInvalid(t, why, flat(wLine(wNone(), wrap(w), wNone())))
		wantInvalid(t, why, flat(wLine(wAssign("x", w))))
	}
	// The function of the deepest expr stands as deep as what it is applied to.
	deep := wNone()
	for range impl.MaxTall - 2 {
		deep = wMonad(wPrim(1), deep)
	}
	wantValid(t, "braces", flat(wLine(wMonad(wBraces(), deep))))
	wantInvalid(t, "braces", flat(wLine(wMonad(wBraces(deep), wNone()))))
}

func TestTreeOkSelections(t *testing.T) {
	x, one := wLow("x"), wNums(1)
	choose := func(a twig) impl.Tree { return flat(wLine(wChoose(a, one))) }
	wrong := []twig{x, one, wText("a"), wLeft(), wRight(), wNone()}
	for n := 1; n <= impl.FnTally; n++ {
		f := wPrim(n)
		wantValidIf(t, impl.FnCat <= n && n <= impl.FnTurn, "f b", choose(wMonad(f, x)))
		wantValidIf(t, impl.FnRev <= n && n <= impl.FnDrop, "a f b", choose(wDyad(one, f, x)))
		wantValidIf(t, impl.FnCat <= n && n <= impl.FnTurn, "f of an index", choose(wMonad(f, wIndex(x, one))))
		wantValidIf(t, impl.FnRev <= n && n <= impl.FnDrop, "index of a f b", choose(wIndex(wDyad(x, f, x), one)))
		wantInvalid(t, "a f b with it as a", choose(wDyad(x, f, one)))
	}
	for _, f := range []twig{wReduce(1, 0), wScan(1, 0), wOuter(1), wInner(1, 1), wBraces(wRight()), wHigh("F"), wSelf()} {
		wrong = append(wrong, wMonad(f, x), wDyad(one, f, x))
	}
	rev := wPrim(impl.FnRev)
	for _, w := range wrong {
		wantInvalid(t, "a selection", choose(w))
		if w.node.K != 3 {
			wantInvalid(t, "index", choose(wIndex(w, one)))
			wantInvalid(t, "f b", choose(wMonad(rev, w)))
			wantInvalid(t, "a f b", choose(wDyad(one, rev, w)))
		}
		wantValid(t, "beside it", choose(wDyad(w, rev, wIndex(x, w, wNoPart()))))
	}
	deep := x
	for range 12 {
		deep = wIndex(wMonad(rev, wDyad(one, wPrim(impl.FnTake), deep)), one)
	}
	wantValid(t, "deep", choose(deep))
}
