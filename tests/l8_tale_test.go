package tests

import (
	"slices"
	"strings"

	"loop.example/s02542/impl"
)

// tale is lines that mostly mean something, over few names that mostly have arrays and functions.
func (g grower) tale() told {
	lines := []string{pick(g, "x←⍳4⋄y←2 3⍴⍳6⋄z←'abc'", "x←2 2⍴⍳4⋄y←7⋄z←⍳5", "y←'ab'⋄x←3 0⍴0", "x←1 0 1⋄z←2 1 2⍴⍳4")}
	lines = append(lines, pick(g, "F←{⍵+1}⋄G←{⍺,⍵}", "F←{⍵=0:⍬⋄⍵,∇⍵-1}⋄G←{⍵}", "G←{x←⍵⋄x[1]←9⋄x}", "F←{x+←⍵⋄x}⋄G←{⍵:1⋄2}", "G←{F ⍵}⋄F←{≢⍵:x⋄y}", "F←{∇⍵}⋄G←{⍵∘.×99⍴⍺}"))
	for range 1 + g.IntN(6) {
		lines = append(lines, g.taleLine())
	}
	if g.IntN(6) == 0 {
		lines = slices.Insert(lines, g.IntN(len(lines)), pick(g, "x←9⋄F←{9}⋄⍳20000", "x←9⋄x←{∇⍵}y", "z+←1000000000000000", "y←9⋄{x←⍵⋄⍵×∇⍵}2", "z[1 1 1 1 1 1⍴1]"))
	}
	return tell(lines...).with(pick(g, 3000, 3000, 1000, 300, g.IntN(400), g.IntN(60)))
}

func (g grower) taleLine() string {
	switch g.IntN(24) {
	case 0:
		return strings.Join(wordsOf(g.line(), false), " ")
	case 1:
		var words []string
		for range g.IntN(8) {
			words = append(words, pick(g, lineWords()...))
		}
		return strings.Join(words, " ")
	case 2:
		var line []byte
		for range g.IntN(12) {
			line = append(line, byte(g.IntN(256)))
		}
		return string(line)
	case 3:
		return pick(g, "", " ", "⍝", "⍝ \xff")
	}
	var stmts []twig
	for range 1 + g.IntN(3) {
		stmts = append(stmts, g.taleStmt(2, false))
	}
	return strings.Join(wordsOf(wLine(stmts...), g.IntN(4) == 0), " ")
}

func (g grower) taleStmt(depth int, inCall bool) twig {
	name := pick(g, "x", "y", "z")
	b := g.taleExpr(depth, inCall)
	switch g.IntN(10) {
	case 0, 1:
		return wAssign(name, b)
	case 2:
		return wDefine(pick(g, "F", "G", "H"), g.taleBraces(depth-1))
	case 3:
		return wParts(name, append(g.taleParts(depth-1, inCall), g.talePlace(depth, b))...)
	case 4:
		return wModify(name, 1+g.IntN(16), b)
	case 5, 6:
		return wChoose(g.taleSelection(depth, name, inCall), g.talePlace(depth, b))
	}
	return b
}

// talePlace is what is put into a part: mostly one number, that fits everywhere.
func (g grower) talePlace(depth int, other twig) twig {
	if g.IntN(3) == 0 {
		return other
	}
	return pick(g, wNums(g.IntN(5)), wNums(8), wText("q"), wMonad(wPrim(impl.FnTally), g.taleLeaf(false)))
}

func (g grower) taleBraces(depth int) twig {
	var items []twig
	for range g.IntN(3) {
		switch g.IntN(4) {
		case 0:
			// Most calls end by this guard.
			items = append(items, wGuard(wDyad(wMonad(wPrim(impl.FnTally), wRight()), wPrim(pick(g, impl.FnLe, impl.FnEq, impl.FnGt)), wNums(g.IntN(3))), g.taleExpr(depth, true)))
		case 1:
			items = append(items, wGuard(g.taleExpr(depth, true), g.taleExpr(depth, true)))
		default:
			items = append(items, g.taleStmt(depth, true))
		}
	}
	if g.IntN(8) > 0 {
		items = append(items, g.taleExpr(depth, true))
	}
	return wBraces(items...)
}

func (g grower) taleParts(depth int, inCall bool) []twig {
	var parts []twig
	for range pick(g, 1, 1, 1, 2, 2, 3) {
		switch g.IntN(6) {
		case 0:
			parts = append(parts, g.taleExpr(depth, inCall))
		case 1, 2:
			parts = append(parts, wNoPart())
		default:
			parts = append(parts, pick(g, wNums(1), wNums(2), wNums(1, 2), wNums(2, 1, 2), wNums(g.IntN(6)), wNone()))
		}
	}
	return parts
}

func (g grower) taleSelection(depth int, name string, inCall bool) twig {
	it := wLow(name)
	if depth > 0 && g.IntN(3) > 0 {
		it = g.taleSelection(depth-1, name, inCall)
	}
	switch g.IntN(6) {
	case 0, 1:
		return wIndex(it, g.taleParts(depth-1, inCall)...)
	case 2, 3:
		return wMonad(wPrim(20+g.IntN(4)), it)
	}
	k := pick(g, wNums(g.IntN(5)-2), wNums(1), wNums(1, 2), wNums(2, 1), wNums(-1, 1), g.taleExpr(depth-1, inCall))
	return wDyad(k, wPrim(21+g.IntN(5)), it)
}

func (g grower) taleLeaf(inCall bool) twig {
	switch g.IntN(8) {
	case 0, 1:
		var nums []int
		for range 1 + g.IntN(3) {
			nums = append(nums, g.IntN(5)-g.IntN(2))
		}
		return wNums(nums...)
	case 2:
		return wText(pick(g, "", "a", "abc", "it's", "⍵"))
	case 3:
		return pick(g, wNone(), wNums(1, 0), wNums(impl.MaxInt))
	}
	if inCall && g.IntN(2) == 0 {
		return pick(g, wRight(), wRight(), wLeft())
	}
	return wLow(pick(g, "x", "x", "y", "y", "z", "z", "u"))
}

func (g grower) taleExpr(depth int, inCall bool) twig {
	if depth <= 0 {
		return g.taleLeaf(inCall)
	}
	b := g.taleExpr(depth-1, inCall)
	switch g.IntN(9) {
	case 0:
		return wIndex(b, g.taleParts(depth-1, inCall)...)
	case 1, 2:
		return wMonad(wPrim(pick(g, 1, 2, 3, 7, 17, 18, 19, 20, 21, 22, 23, 24, 26, 27, 28, 33, 1+g.IntN(33))), b)
	case 3:
		return wMonad(g.taleFunction(depth-1, inCall), b)
	case 4, 5:
		return wDyad(wNums(g.IntN(4)), wPrim(1+g.IntN(33)), b)
	case 6:
		return wDyad(g.taleExpr(depth-1, inCall), wPrim(1+g.IntN(33)), b)
	case 7:
		return wDyad(g.taleExpr(depth-1, inCall), g.taleFunction(depth-1, inCall), b)
	}
	return g.taleLeaf(inCall)
}

func (g grower) taleFunction(depth int, inCall bool) twig {
	op := pick(g, 1, 2, 3, 5, 6, 9, 10, 1+g.IntN(16))
	switch g.IntN(8) {
	case 0:
		return wReduce(op, g.IntN(2))
	case 1:
		return wScan(op, g.IntN(2))
	case 2:
		return wOuter(op)
	case 3:
		return wInner(op, pick(g, 1, 3, 9))
	case 4, 5:
		return g.taleBraces(depth)
	}
	if inCall && g.IntN(3) == 0 {
		return wSelf()
	}
	return wHigh(pick(g, "F", "F", "G", "H"))
}

// without leaves one line out.
func (s told) without(line int) told {
	return told{slices.Delete(slices.Clone(s.lines), line, line+1), s.fuel}
}
