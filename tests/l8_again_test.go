package tests

import (
	"maps"
	"slices"

	"loop.example/s02542/impl"
)

// thrown is a code that ends a line.
type thrown int

// frame is what stands in the workspace or in a call: each name with its latest meaning, and what a call is of.
type frame struct {
	arrays      map[string]impl.Array
	functions   map[string]twig
	left, right []impl.Array
	self        []twig
}

func newFrame() *frame {
	return &frame{arrays: map[string]impl.Array{}, functions: map[string]twig{}}
}

func (f *frame) copied() *frame {
	return &frame{arrays: maps.Clone(f.arrays), functions: maps.Clone(f.functions)}
}

// teller is a second Mean, written apart from the program's: codes are thrown, functions are the text of their braces, and a selection is a tree in which the numbers stand as a node.
type teller struct {
	fuel, work, made int
	frames           []*frame
}

func meanAgain(lines []string, fuel int) ([]impl.Reply, map[string]impl.Array) {
	workspace := newFrame()
	var replies []impl.Reply
	for _, line := range lines {
		tree, code, _ := impl.Parse([]byte(line))
		if code != 0 {
			replies = append(replies, impl.Reply{Text: []byte(codeNames[code]), Code: code})
			continue
		}
		root, _, _ := raise(tree, len(tree.Nodes)-1, 0)
		m := &teller{fuel: fuel, frames: []*frame{workspace.copied()}}
		text, code := m.line(root)
		if code == 0 {
			workspace = m.frames[0]
		} else {
			text = codeNames[code]
		}
		replies = append(replies, impl.Reply{Text: []byte(text), Code: code, Work: m.work, Made: m.made})
	}
	return replies, workspace.arrays
}

func (m *teller) line(root twig) (text string, code int) {
	defer func() {
		if r := recover(); r != nil {
			code = int(r.(thrown))
		}
	}()
	for _, stmt := range root.kids {
		if stmt.node.K <= 10 {
			text += showAgain(m.value(stmt))
		} else {
			m.stmt(stmt)
		}
	}
	return text, 0
}

func (m *teller) pay(work int) {
	m.work += work
	if m.work > m.fuel {
		m.work = m.fuel
		panic(thrown(impl.ErrFuel))
	}
}

func (m *teller) gain(a impl.Array) impl.Array {
	m.pay(len(a.Data))
	m.made += len(a.Data)
	return a
}

func sure(a impl.Array, code int) impl.Array {
	if code != 0 {
		panic(thrown(code))
	}
	return a
}

func (m *teller) here() *frame { return m.frames[len(m.frames)-1] }

func only(list []impl.Array) impl.Array {
	if len(list) == 0 {
		panic(thrown(impl.ErrValue))
	}
	return list[0]
}

// standIn is the kind of a node with which numbers stand for a name; they are free.
const standIn = 99

func (m *teller) value(w twig) impl.Array {
	if w.node.K == standIn {
		return impl.Array{Shape: w.node.Kids, Data: w.node.Nums}
	}
	m.pay(1)
	var args []impl.Array
	for i := len(w.kids) - 1; i >= 0; i-- {
		kid := w.kids[i]
		if kid.node.K <= 10 && kid.node.K != 8 || kid.node.K == standIn {
			args = append(args, m.value(kid))
		}
	}
	return m.gain(m.meant(w, args))
}

// meant is the value of an expr whose kids' values are known, the last one's first.
func (m *teller) meant(w twig, args []impl.Array) impl.Array {
	n := w.node
	switch n.K {
	case 1, 2:
		a := impl.Array{Data: n.Nums}
		if n.K == 2 {
			a = characters(nil, n.S)
		}
		if len(a.Data) != 1 {
			a.Shape = []int{len(a.Data)}
		}
		return a
	case 3:
		for _, f := range []*frame{m.here(), m.frames[0]} {
			if a, ok := f.arrays[n.S]; ok {
				return a
			}
		}
		panic(thrown(impl.ErrValue))
	case 4:
		return only(m.here().left)
	case 5:
		return only(m.here().right)
	case 6:
		return vector()
	case 7:
		return sure(indexAgain(args[len(args)-1], partsAgain(w.kids[1:], args)))
	}
	f := w.kids[len(w.kids)-2]
	m.payFor(f.node, args)
	if len(args) == 1 {
		return m.ofOne(f, args[0])
	}
	return m.ofTwo(f, args[1], args[0])
}

// partsAgain lays values out among parts, of which the last has the first value.
func partsAgain(kids []twig, values []impl.Array) []impl.Part {
	parts := make([]impl.Part, len(kids))
	for i := len(kids) - 1; i >= 0; i-- {
		if kids[i].node.K == 8 {
			parts[i] = all
			continue
		}
		parts[i] = at(values[0])
		values = values[1:]
	}
	return parts
}

func (m *teller) payFor(f impl.Node, args []impl.Array) {
	work := 0
	for _, a := range args {
		work += len(a.Data)
	}
	each := f.K == 14 || f.K == 15 || f.K == 11 && slices.Contains([]int{19, 28, 32}, f.N)
	if each && len(args) == 2 {
		work += len(args[0].Data) * len(args[1].Data)
	}
	if f.K == 13 {
		work += len(args[0].Data) * axisLength(args[0].Shape, f.M == 1)
	}
	m.pay(work)
}

func (m *teller) ofOne(f twig, b impl.Array) impl.Array {
	switch n := f.node; n.K {
	case 11:
		return sure(impl.Monad(n.N, b))
	case 12:
		return sure(impl.Fold(n.N, b, n.M == 1))
	case 13:
		return sure(impl.Scan(n.N, b, n.M == 1))
	case 14, 15:
		panic(thrown(impl.ErrSyntax))
	}
	return m.call(f, nil, b)
}

func (m *teller) ofTwo(f twig, a impl.Array, b impl.Array) impl.Array {
	switch n := f.node; n.K {
	case 11:
		result := sure(impl.Dyad(n.N, a, b))
		if n.M == standIn && n.N == impl.FnTake && !isAllThere(a, b) {
			panic(thrown(impl.ErrIndex))
		}
		return result
	case 12, 13:
		panic(thrown(impl.ErrSyntax))
	case 14:
		return sure(impl.Outer(n.N, a, b))
	case 15:
		return sure(impl.Inner(n.N, n.M, a, b))
	}
	return m.call(f, []impl.Array{a}, b)
}

// isAllThere says whether as much as is to be taken is there along each axis.
func isAllThere(k impl.Array, a impl.Array) bool {
	for i, n := range k.Data {
		length := append(slices.Clone(a.Shape), ones(impl.MaxRank)...)[i]
		if n > length || n < -length {
			return false
		}
	}
	return true
}

func (m *teller) call(f twig, left []impl.Array, right impl.Array) impl.Array {
	var found []twig
	switch f.node.K {
	case 16:
		found = []twig{f}
	case 17:
		for _, from := range []*frame{m.here(), m.frames[0]} {
			if function, ok := from.functions[f.node.S]; ok {
				found = append(found, function)
			}
		}
	case 18:
		found = m.here().self
	}
	if len(found) == 0 {
		panic(thrown(impl.ErrValue))
	}
	if len(m.frames) > impl.MaxCalls {
		panic(thrown(impl.ErrLimit))
	}
	own := newFrame()
	own.left, own.right, own.self = left, []impl.Array{right}, found[:1]
	m.frames = append(m.frames, own)
	result := m.items(found[0].kids)
	m.frames = m.frames[:len(m.frames)-1]
	return result
}

func (m *teller) items(items []twig) impl.Array {
	for _, item := range items {
		switch {
		case item.node.K <= 10:
			return m.value(item)
		case item.node.K == 24:
			m.pay(1)
			a := m.value(item.kids[0])
			if len(a.Data) != 1 {
				panic(thrown(impl.ErrLength))
			}
			if a.Char || a.Data[0] != 0 && a.Data[0] != 1 {
				panic(thrown(impl.ErrDomain))
			}
			if a.Data[0] == 1 {
				return m.value(item.kids[1])
			}
		default:
			m.stmt(item)
		}
	}
	panic(thrown(impl.ErrValue))
}

func (m *teller) stmt(w twig) {
	m.pay(1)
	n, here := w.node, m.here()
	last := len(w.kids) - 1
	if n.K == 20 {
		here.wantRoom(n.S)
		here.functions[n.S] = w.kids[0]
		return
	}
	b := m.value(w.kids[last])
	switch n.K {
	case 19:
		here.wantRoom(n.S)
		here.arrays[n.S] = b
	case 21:
		var values []impl.Array
		for i := last - 1; i >= 0; i-- {
			if w.kids[i].node.K != 8 {
				values = append(values, m.value(w.kids[i]))
			}
		}
		here.arrays[n.S] = m.gain(sure(replaceAgain(here.own(n.S), b, partsAgain(w.kids[:last], values))))
	case 22:
		here.arrays[n.S] = m.gain(sure(impl.Scalar2(n.N, here.own(n.S), b)))
	case 23:
		name := nameWithin(w.kids[0])
		here.arrays[name] = m.gain(m.chosen(w.kids[0], here.own(name), b))
	}
}

func (f *frame) wantRoom(name string) {
	_, isArray := f.arrays[name]
	_, isFunction := f.functions[name]
	if !isArray && !isFunction && len(f.arrays)+len(f.functions) >= impl.MaxNames {
		panic(thrown(impl.ErrLimit))
	}
}

func (f *frame) own(name string) impl.Array {
	a, ok := f.arrays[name]
	if !ok {
		panic(thrown(impl.ErrValue))
	}
	return a
}

// kidWithin is which kid of a selection's node is the selection that it is made of.
func kidWithin(w twig) int {
	return map[int]int{7: 0, 9: 1, 10: 2}[w.node.K]
}

func nameWithin(w twig) string {
	for w.node.K != 3 {
		w = w.kids[kidWithin(w)]
	}
	return w.node.S
}

// numbered is a selection with the numbers of a's elements, from 0 on, in place of its name.
func numbered(w twig, a impl.Array) twig {
	if w.node.K == 3 {
		return twig{node: impl.Node{K: standIn, Nums: numbersFrom0(len(a.Data)), Kids: a.Shape}}
	}
	kids := slices.Clone(w.kids)
	place := kidWithin(w)
	kids[place] = numbered(kids[place], a)
	if w.node.K != 7 {
		kids[place-1].node.M = standIn
	}
	return twig{node: w.node, kids: kids}
}

func (m *teller) chosen(w twig, a impl.Array, b impl.Array) impl.Array {
	numbers := m.value(numbered(w, a))
	if len(b.Data) != 1 && len(b.Shape) != len(numbers.Shape) {
		panic(thrown(impl.ErrRank))
	}
	if len(b.Data) != 1 && !slices.Equal(b.Shape, numbers.Shape) {
		panic(thrown(impl.ErrLength))
	}
	if a.Char != b.Char {
		panic(thrown(impl.ErrDomain))
	}
	result := impl.Array{Char: a.Char, Shape: a.Shape, Data: slices.Clone(a.Data)}
	for i, number := range numbers.Data {
		result.Data[number] = b.Data[i%len(b.Data)]
	}
	return result
}
