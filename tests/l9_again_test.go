package tests

import (
	"maps"
	"slices"

	"loop.example/s02542/impl"
)

// slab is a buffer: so many cells, told from others by where it is.
type slab struct{ cells int }

// thing is a value: an array and the place of each element, in a slab unless it is plain. One that is free is the numbers of a selection.
type thing struct {
	impl.Array
	places []int
	slab   *slab
	free   bool
}

// ground is what stands in the workspace or in a call.
type ground struct {
	arrays      map[string]thing
	functions   map[string]twig
	left, right []thing
	self        []twig
}

func newGround() *ground {
	return &ground{arrays: map[string]thing{}, functions: map[string]twig{}}
}

func (g *ground) copied() *ground {
	return &ground{arrays: maps.Clone(g.arrays), functions: maps.Clone(g.functions)}
}

// watcher is a second Run, written apart from the program's: places are lists that are changed by the functions that change the arrays, nothing is counted as it goes, and for each new value all that looks at a slab is gone through. It pays as the second Mean does.
type watcher struct {
	teller
	budget, cells int
	grounds       []*ground
	before        map[string]thing
	held          []thing
	// need is the most cells that were live or asked for at once; inPlace and anew are how many assignments to a part were the one and the other.
	need, inPlace, anew int
}

func runAgain(lines []string, fuel int, budget int) ([]impl.Reply, *watcher) {
	m := &watcher{budget: budget, grounds: []*ground{newGround()}}
	var replies []impl.Reply
	for _, line := range lines {
		m.teller, m.cells = teller{fuel: fuel}, 0
		tree, code, _ := impl.Parse([]byte(line))
		text := ""
		if code == 0 {
			root, _, _ := raise(tree, len(tree.Nodes)-1, 0)
			text, code = m.line(root)
		}
		if code != 0 {
			text = codeNames[code]
		}
		replies = append(replies, impl.Reply{Text: []byte(text), Code: code, Work: m.work, Made: m.made, Live: m.live(), Cells: m.cells})
	}
	return replies, m
}

func (m *watcher) line(root twig) (text string, code int) {
	was := m.grounds[0].copied()
	defer func() {
		if r := recover(); r != nil {
			text, code = "", int(r.(thrown))
			m.grounds = []*ground{was}
		}
		m.held, m.before = nil, nil
	}()
	if len(root.kids) > 1 {
		m.before = was.arrays
	}
	for _, stmt := range root.kids {
		if stmt.node.K <= 10 {
			text += showAgain(m.value(stmt).Array)
		} else {
			m.stmt(stmt)
		}
	}
	return text, 0
}

// lookers are all that look at each slab.
func (m *watcher) lookers() map[*slab]int {
	counts := map[*slab]int{}
	see := func(t thing) {
		if t.slab != nil {
			counts[t.slab]++
		}
	}
	for _, g := range m.grounds {
		for _, t := range g.arrays {
			see(t)
		}
		for _, t := range slices.Concat(g.left, g.right) {
			see(t)
		}
	}
	for _, t := range m.before {
		see(t)
	}
	for _, t := range m.held {
		see(t)
	}
	return counts
}

func (m *watcher) live() int {
	cells := 0
	for s := range m.lookers() {
		cells += s.cells
	}
	return cells
}

func plainly(a impl.Array) thing {
	return thing{Array: a, places: numbersFrom0(len(a.Data))}
}

func (m *watcher) fresh(a impl.Array) thing {
	result := plainly(a)
	count := len(a.Data)
	if count < 2 {
		return result
	}
	m.need = max(m.need, m.live()+count)
	if m.live()+count > m.budget {
		panic(thrown(impl.ErrFull))
	}
	m.cells += count
	result.slab = &slab{count}
	return result
}

func (m *watcher) value(w twig) thing {
	if w.node.K == standIn {
		return thing{Array: impl.Array{Shape: w.node.Kids, Data: w.node.Nums}, free: true}
	}
	m.pay(1)
	from := len(m.held)
	for i := len(w.kids) - 1; i >= 0; i-- {
		if kid := w.kids[i]; kid.node.K <= 10 && kid.node.K != 8 || kid.node.K == standIn {
			m.held = append(m.held, m.value(kid))
		}
	}
	args := slices.Clone(m.held[from:])
	same, array := m.found(w, args)
	if len(same) > 0 {
		array = same[0].Array
	}
	m.gain(array)
	var result thing
	switch {
	case len(same) > 0:
		result = same[0]
	case len(args) > 0 && operandOf(w, args).free:
		result = thing{Array: array, free: true}
	default:
		result = m.laid(w, args, array)
	}
	m.held = m.held[:from]
	return result
}

// operandOf is what a function or an index acts on: all of it comes last but for the array of an index.
func operandOf(w twig, args []thing) thing {
	if w.node.K == 7 {
		return args[len(args)-1]
	}
	return args[0]
}

func bareArrays(things []thing) []impl.Array {
	var list []impl.Array
	for _, t := range things {
		list = append(list, t.Array)
	}
	return list
}

func onlyThing(list []thing) []thing {
	if len(list) == 0 {
		panic(thrown(impl.ErrValue))
	}
	return list
}

// found is a value that is there already, or the array of one that is to be laid somewhere.
func (m *watcher) found(w twig, args []thing) ([]thing, impl.Array) {
	n, here := w.node, m.grounds[len(m.grounds)-1]
	switch n.K {
	case 3:
		for _, g := range []*ground{here, m.grounds[0]} {
			if t, ok := g.arrays[n.S]; ok {
				return []thing{t}, impl.Array{}
			}
		}
		panic(thrown(impl.ErrValue))
	case 4:
		return onlyThing(here.left), impl.Array{}
	case 5:
		return onlyThing(here.right), impl.Array{}
	case 1, 2, 6, 7:
		// Of these the second Mean asks no names.
		return nil, m.meant(w, bareArrays(args))
	}
	f := w.kids[len(w.kids)-2]
	if f.node.K <= 15 {
		return nil, m.meant(w, bareArrays(args))
	}
	m.payFor(f.node, bareArrays(args))
	return []thing{m.call(f, args[1:], args[0])}, impl.Array{}
}

// laid is the table of what a value is.
func (m *watcher) laid(w twig, args []thing, a impl.Array) thing {
	if len(a.Data) < 2 {
		return plainly(a)
	}
	if w.node.K == 7 {
		parts := partsAgain(w.kids[1:], bareArrays(args))
		for _, part := range parts {
			if _, isEven := distanceOf(part.A.Data); !part.All && (!isEven || len(part.A.Shape) > 1) {
				return m.fresh(a)
			}
		}
		of := operandOf(w, args)
		return of.moved(a, sure(indexAgain(of.whereabouts(), parts)))
	}
	if w.node.K <= 6 || w.kids[len(w.kids)-2].node.K != 11 {
		return m.fresh(a)
	}
	op, b := w.kids[len(w.kids)-2].node.N, args[0]
	if len(args) == 1 {
		return m.laidOfOne(op, b, a)
	}
	return m.laidOfTwo(op, args[1].Array, b, a)
}

func (m *watcher) laidOfOne(op int, b thing, a impl.Array) thing {
	_, isEven := distanceOf(b.places)
	switch {
	case op == impl.FnIota:
		return plainly(a)
	case op == impl.FnAdd || op >= impl.FnRev && op <= impl.FnTurn, (op == impl.FnCat || op == impl.FnIn) && isEven:
		return b.moved(a, sure(monadAgain(op, b.whereabouts())))
	}
	return m.fresh(a)
}

func (m *watcher) laidOfTwo(op int, k impl.Array, b thing, a impl.Array) thing {
	_, isEven := distanceOf(b.places)
	isMoved := op == impl.FnTurn || op == impl.FnDrop || op == impl.FnTake && isAllThere(k, b.Array)
	if op == impl.FnRho {
		isMoved = len(b.Data) == 1 || isEven && len(b.Data) >= len(a.Data)
	}
	if !isMoved {
		return m.fresh(a)
	}
	return b.moved(a, sure(dyadAgain(op, k, b.whereabouts())))
}

// whereabouts has the places of a thing as the elements of its array.
func (t thing) whereabouts() impl.Array {
	return impl.Array{Shape: t.Shape, Data: t.places}
}

func (t thing) moved(a impl.Array, places impl.Array) thing {
	return thing{Array: a, places: places.Data, slab: t.slab}
}

func (m *watcher) call(f twig, left []thing, right thing) thing {
	here := m.grounds[len(m.grounds)-1]
	var function []twig
	switch f.node.K {
	case 16:
		function = []twig{f}
	case 17:
		for _, g := range []*ground{here, m.grounds[0]} {
			if known, ok := g.functions[f.node.S]; ok {
				function = append(function, known)
			}
		}
	case 18:
		function = here.self
	}
	if len(function) == 0 {
		panic(thrown(impl.ErrValue))
	}
	if len(m.grounds) > impl.MaxCalls {
		panic(thrown(impl.ErrLimit))
	}
	own := newGround()
	own.left, own.right, own.self = left, []thing{right}, function[:1]
	m.grounds = append(m.grounds, own)
	result := m.items(function[0].kids)
	m.grounds = m.grounds[:len(m.grounds)-1]
	return result
}

func (m *watcher) items(items []twig) thing {
	for _, item := range items {
		switch {
		case item.node.K <= 10:
			return m.value(item)
		case item.node.K == 24:
			m.pay(1)
			a := m.value(item.kids[0])
			if len(a.Data) != 1 {
				panic(thrown(impl.ErrLength))
			}
			if a.Char || a.Data[0] != 0 && a.Data[0] != 1 {
				panic(thrown(impl.ErrDomain))
			}
			if a.Data[0] == 1 {
				return m.value(item.kids[1])
			}
		default:
			m.stmt(item)
		}
	}
	panic(thrown(impl.ErrValue))
}

func (g *ground) wantRoom(name string) {
	_, isArray := g.arrays[name]
	_, isFunction := g.functions[name]
	if !isArray && !isFunction && len(g.arrays)+len(g.functions) >= impl.MaxNames {
		panic(thrown(impl.ErrLimit))
	}
}

func (g *ground) own(name string) impl.Array {
	return onlyThing(slices.Collect(func(yield func(thing) bool) {
		if t, ok := g.arrays[name]; ok {
			yield(t)
		}
	}))[0].Array
}

func (m *watcher) stmt(w twig) {
	m.pay(1)
	n, here, last := w.node, m.grounds[len(m.grounds)-1], len(w.kids)-1
	if n.K == 20 {
		here.wantRoom(n.S)
		here.functions[n.S] = w.kids[0]
		return
	}
	from := len(m.held)
	b := m.value(w.kids[last])
	m.held = append(m.held, b)
	switch n.K {
	case 19:
		here.wantRoom(n.S)
		here.arrays[n.S] = b
	case 21:
		for i := last - 1; i >= 0; i-- {
			if w.kids[i].node.K != 8 {
				m.held = append(m.held, m.value(w.kids[i]))
			}
		}
		parts := partsAgain(w.kids[:last], bareArrays(m.held[from+1:]))
		m.write(here, n.S, sure(replaceAgain(here.own(n.S), b.Array, parts)))
	case 22:
		m.write(here, n.S, sure(impl.Scalar2(n.N, here.own(n.S), b.Array)))
	case 23:
		name := nameWithin(w.kids[0])
		m.write(here, name, m.chosen(w.kids[0], here.own(name), b.Array))
	}
	m.held = m.held[:from]
}

// chosen is the array of a selection's name with the elements of b where the selection has its numbers.
func (m *watcher) chosen(w twig, a impl.Array, b impl.Array) impl.Array {
	numbers := m.value(numbered(w, a)).Array
	switch {
	case len(b.Data) != 1 && len(b.Shape) != len(numbers.Shape):
		panic(thrown(impl.ErrRank))
	case len(b.Data) != 1 && !slices.Equal(b.Shape, numbers.Shape):
		panic(thrown(impl.ErrLength))
	case a.Char != b.Char:
		panic(thrown(impl.ErrDomain))
	}
	result := impl.Array{Char: a.Char, Shape: a.Shape, Data: slices.Clone(a.Data)}
	for i, number := range numbers.Data {
		result.Data[number] = b.Data[i%len(b.Data)]
	}
	return result
}

// write gives a name its array with other elements, in place or as a new value.
func (m *watcher) write(here *ground, name string, a impl.Array) {
	m.gain(a)
	was := here.arrays[name]
	once := map[int]int{}
	for _, place := range was.places {
		once[place]++
	}
	if was.slab != nil && m.lookers()[was.slab] == 1 && len(once) == len(was.places) && slices.Equal(was.Shape, a.Shape) {
		m.inPlace++
		here.arrays[name] = was.moved(a, was.whereabouts())
		return
	}
	m.anew++
	here.arrays[name] = m.fresh(a)
}
