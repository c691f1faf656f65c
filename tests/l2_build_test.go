package tests

import (
	"math/rand/v2"
	"slices"

	"loop.example/s02542/impl"
)

// twig is a node with its kids within it, as trees are easier to write that way.
type twig struct {
	node impl.Node
	kids []twig
}

// flat lays a twig out: kids first, from the first to the last, then the node.
func flat(root twig) impl.Tree {
	var tree impl.Tree
	var lay func(w twig) int
	lay = func(w twig) int {
		n := w.node
		for _, kid := range w.kids {
			n.Kids = append(n.Kids, lay(kid))
		}
		tree.Nodes = append(tree.Nodes, n)
		return len(tree.Nodes) - 1
	}
	lay(root)
	return tree
}

func bare(k int, kids ...twig) twig { return twig{impl.Node{K: k}, kids} }

func wNums(nums ...int) twig  { return twig{node: impl.Node{K: 1, Nums: nums}} }
func wText(s string) twig     { return twig{node: impl.Node{K: 2, S: s}} }
func wLow(s string) twig      { return twig{node: impl.Node{K: 3, S: s}} }
func wLeft() twig             { return bare(4) }
func wRight() twig            { return bare(5) }
func wNone() twig             { return bare(6) }
func wNoPart() twig           { return bare(8) }
func wMonad(f, b twig) twig   { return bare(9, f, b) }
func wDyad(a, f, b twig) twig { return bare(10, a, f, b) }
func wPrim(n int) twig        { return twig{node: impl.Node{K: 11, N: n}} }
func wReduce(n, m int) twig   { return twig{node: impl.Node{K: 12, N: n, M: m}} }
func wScan(n, m int) twig     { return twig{node: impl.Node{K: 13, N: n, M: m}} }
func wOuter(n int) twig       { return twig{node: impl.Node{K: 14, N: n}} }
func wInner(n, m int) twig    { return twig{node: impl.Node{K: 15, N: n, M: m}} }
func wBraces(i ...twig) twig  { return bare(16, i...) }
func wHigh(s string) twig     { return twig{node: impl.Node{K: 17, S: s}} }
func wSelf() twig             { return bare(18) }
func wGuard(a, b twig) twig   { return bare(24, a, b) }
func wLine(s ...twig) twig    { return bare(25, s...) }

func wIndex(a twig, parts ...twig) twig {
	return bare(7, append([]twig{a}, parts...)...)
}

func wAssign(s string, b twig) twig {
	return twig{impl.Node{K: 19, S: s}, []twig{b}}
}

func wDefine(s string, f twig) twig {
	return twig{impl.Node{K: 20, S: s}, []twig{f}}
}

// wParts takes the parts and b behind them.
func wParts(s string, partsAndB ...twig) twig {
	return twig{impl.Node{K: 21, S: s}, partsAndB}
}

func wModify(s string, n int, b twig) twig {
	return twig{impl.Node{K: 22, S: s, N: n}, []twig{b}}
}

func wChoose(a, b twig) twig { return bare(23, a, b) }

func sameNode(a, b impl.Node) bool {
	return a.K == b.K && a.N == b.N && a.M == b.M && a.S == b.S && slices.Equal(a.Nums, b.Nums) && slices.Equal(a.Kids, b.Kids)
}

func sameTree(a, b impl.Tree) bool {
	return slices.EqualFunc(a.Nodes, b.Nodes, sameNode)
}

func copyTree(t impl.Tree) impl.Tree {
	var out impl.Tree
	for _, n := range t.Nodes {
		n.Nums, n.Kids = slices.Clone(n.Nums), slices.Clone(n.Kids)
		out.Nodes = append(out.Nodes, n)
	}
	return out
}

// grower makes what tests ask about by chance, valid trees of every kind of node above all.
type grower struct {
	*rand.Rand
}

func pick[T any](g grower, from ...T) T { return from[g.IntN(len(from))] }

func (g grower) several(least int, make func(int) twig, depth int) []twig {
	var out []twig
	for range least + g.IntN(3) {
		out = append(out, make(depth))
	}
	return out
}

func (g grower) low() string {
	return pick(g, "a", "z", "x", "y1", "m", "aB9", "abcdefghijklmnopqrst")
}

func (g grower) high() string {
	return pick(g, "A", "Z", "F", "Gx", "H2", "ABCDEFGHIJKLMNOPQRST")
}

func (g grower) line() twig {
	return wLine(g.several(0, g.stmt, 1+g.IntN(4))...)
}

func (g grower) stmt(depth int) twig {
	switch g.IntN(8) {
	case 0:
		return wAssign(g.low(), g.expr(depth))
	case 1:
		return wDefine(g.high(), wBraces(g.several(0, g.item, depth-1)...))
	case 2:
		return wParts(g.low(), append(g.several(1, g.part, depth-1), g.expr(depth))...)
	case 3:
		return wModify(g.low(), 1+g.IntN(16), g.expr(depth))
	case 4:
		return wChoose(g.selection(depth), g.expr(depth))
	}
	return g.expr(depth)
}

func (g grower) item(depth int) twig {
	if g.IntN(3) == 0 {
		return wGuard(g.expr(depth), g.expr(depth))
	}
	return g.stmt(depth)
}

func (g grower) part(depth int) twig {
	if g.IntN(3) == 0 {
		return wNoPart()
	}
	return g.expr(depth)
}

func (g grower) selection(depth int) twig {
	it := wLow(g.low())
	if depth > 0 && g.IntN(2) == 0 {
		it = g.selection(depth - 1)
	}
	switch g.IntN(3) {
	case 0:
		return wIndex(it, g.several(1, g.part, depth-1)...)
	case 1:
		return wMonad(wPrim(20+g.IntN(4)), it)
	}
	return wDyad(g.expr(depth-1), wPrim(21+g.IntN(5)), it)
}

func (g grower) expr(depth int) twig {
	if depth > 0 {
		switch g.IntN(4) {
		case 0:
			return wIndex(g.expr(depth-1), g.several(1, g.part, depth-2)...)
		case 1:
			return wMonad(g.function(depth-1), g.expr(depth-1))
		case 2:
			return wDyad(g.expr(depth-1), g.function(depth-1), g.expr(depth-1))
		}
	}
	return g.leaf()
}

func (g grower) leaf() twig {
	switch g.IntN(6) {
	case 0:
		var nums []int
		for range 1 + g.IntN(3) {
			nums = append(nums, pick(g, 0, 1, 12, -1, -30, impl.MaxInt, -impl.MaxInt))
		}
		return wNums(nums...)
	case 1:
		return wText(pick(g, "", "a", "'", "it's", "⍝ [;]", "x 1", "(", "←", "⍴é😀"))
	case 2:
		return wLow(g.low())
	}
	return pick(g, wLeft(), wRight(), wNone())
}

func (g grower) function(depth int) twig {
	scalar := func() int { return 1 + g.IntN(16) }
	switch g.IntN(9) {
	case 0:
		return wReduce(scalar(), g.IntN(2))
	case 1:
		return wScan(scalar(), g.IntN(2))
	case 2:
		return wOuter(scalar())
	case 3:
		return wInner(scalar(), scalar())
	case 4:
		if depth > 0 {
			return wBraces(g.several(0, g.item, depth-1)...)
		}
	case 5:
		return wHigh(g.high())
	case 6:
		return wSelf()
	case 7:
		return wPrim(pick(g, impl.FnRep, impl.FnRepF))
	}
	return wPrim(1 + g.IntN(33))
}
