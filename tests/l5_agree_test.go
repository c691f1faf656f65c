package tests

import (
	"math/big"
	"math/rand/v2"
	"slices"
	"testing"

	"loop.example/s02542/impl"
)

func areArrays(arrays ...impl.Array) bool {
	return !slices.ContainsFunc(arrays, func(a impl.Array) bool { return !arrayOkAgain(a) })
}

func listCodeAgain(list impl.Array, a impl.Array) int {
	if !areArrays(list, a) {
		return impl.ErrDomain
	}
	if len(list.Shape) >= 2 {
		return impl.ErrRank
	}
	if list.Char {
		return impl.ErrDomain
	}
	return 0
}

// ofKind gives an array without a code the kind of another.
func ofKind(isChar bool, a impl.Array, code int) (impl.Array, int) {
	a.Char = isChar && code == 0
	return a, code
}

func reshapeAgain(s impl.Array, a impl.Array) (impl.Array, int) {
	if code := listCodeAgain(s, a); code != 0 {
		return impl.Array{}, code
	}
	for _, n := range s.Data {
		if n < 0 {
			return impl.Array{}, impl.ErrDomain
		}
	}
	if noArrayHas(s.Data) {
		return impl.Array{}, impl.ErrLimit
	}
	queue := slices.Clone(a.Data)
	got, code := arrayAgain(s.Data, func([]int) (int, int) {
		if len(queue) == 0 {
			return fillAgain(a), 0
		}
		// What was taken goes to the end, to be taken again.
		n := queue[0]
		queue = append(queue[1:], n)
		return n, 0
	})
	return ofKind(a.Char, got, code)
}

// takenBeside is one side of Catenate as the document takes it beside the other.
func takenBeside(a impl.Array, other impl.Array) impl.Array {
	switch {
	case len(a.Shape) == 0 && len(other.Shape) == 0:
		return full(a.Char, a.Data[0], 1)
	case len(a.Shape) == 0:
		return full(a.Char, a.Data[0], replacedAt(other.Shape, len(other.Shape)-1, 1)...)
	case len(other.Shape)-len(a.Shape) == 1:
		return impl.Array{Char: a.Char, Shape: slices.Concat(a.Shape, []int{1}), Data: a.Data}
	}
	return a
}

func catenateAgain(a impl.Array, b impl.Array) (impl.Array, int) {
	if !areArrays(a, b) {
		return impl.Array{}, impl.ErrDomain
	}
	left, right := takenBeside(a, b), takenBeside(b, a)
	if len(left.Shape) != len(right.Shape) {
		return impl.Array{}, impl.ErrRank
	}
	last := len(left.Shape) - 1
	if !slices.Equal(left.Shape[:last], right.Shape[:last]) {
		return impl.Array{}, impl.ErrLength
	}
	hasLeft, hasRight := len(left.Data) > 0, len(right.Data) > 0
	if left.Char != right.Char && hasLeft && hasRight {
		return impl.Array{}, impl.ErrDomain
	}
	width := left.Shape[last]
	shape := replacedAt(left.Shape, last, width+right.Shape[last])
	if noArrayHas(shape) {
		return impl.Array{}, impl.ErrLimit
	}
	got, code := arrayAgain(shape, func(index []int) (int, int) {
		if index[last] < width {
			return elementAt(left, index), 0
		}
		return elementAt(right, replacedAt(index, last, index[last]-width)), 0
	})
	isChar := left.Char
	if hasLeft != hasRight {
		isChar = hasLeft && left.Char || hasRight && right.Char
	}
	return ofKind(isChar, got, code)
}

func rotateAgain(k impl.Array, a impl.Array, first bool) (impl.Array, int) {
	if !areArrays(k, a) {
		return impl.Array{}, impl.ErrDomain
	}
	if len(k.Data) != 1 {
		return impl.Array{}, impl.ErrLength
	}
	if k.Char {
		return impl.Array{}, impl.ErrDomain
	}
	if len(a.Shape) == 0 {
		return a, 0
	}
	axis := axisPlace(a, first)
	got, code := arrayAgain(a.Shape, func(index []int) (int, int) {
		// Euclid's rest is never below 0.
		number := new(big.Int).Mod(big.NewInt(int64(index[axis]+k.Data[0])), big.NewInt(int64(a.Shape[axis])))
		return elementAt(a, replacedAt(index, axis, int(number.Int64()))), 0
	})
	return ofKind(a.Char, got, code)
}

func transposeAgain(p impl.Array, a impl.Array) (impl.Array, int) {
	if code := listCodeAgain(p, a); code != 0 {
		return impl.Array{}, code
	}
	if len(p.Data) != len(a.Shape) {
		return impl.Array{}, impl.ErrLength
	}
	if !slices.ContainsFunc(ordersOf(len(a.Shape)), func(order []int) bool { return slices.Equal(order, p.Data) }) {
		return impl.Array{}, impl.ErrDomain
	}
	// What comes from axis i stands where the list that turns back has i.
	back := undone(p.Data)
	shape := make([]int, len(back))
	for i, axis := range back {
		shape[i] = a.Shape[axis-1]
	}
	got, code := arrayAgain(shape, func(index []int) (int, int) {
		from := make([]int, len(back))
		for i, axis := range back {
			from[axis-1] = index[i]
		}
		return elementAt(a, from), 0
	})
	return ofKind(a.Char, got, code)
}

// axesFor are an array's axes as Take and Drop take them by a list, or a code.
func axesFor(k impl.Array, a impl.Array) (impl.Array, int) {
	if code := listCodeAgain(k, a); code != 0 {
		return impl.Array{}, code
	}
	if len(a.Shape) == 0 && len(k.Data) > 5 {
		return impl.Array{}, impl.ErrLimit
	}
	if len(a.Shape) == 0 {
		return full(a.Char, a.Data[0], ones(len(k.Data))...), 0
	}
	if len(k.Data) != len(a.Shape) {
		return impl.Array{}, impl.ErrLength
	}
	return a, 0
}

// alongLists has, along each axis, the elements that a list has numbers of, and the fill for -1.
func alongLists(a impl.Array, lists [][]int) (impl.Array, int) {
	var shape []int
	for _, list := range lists {
		shape = append(shape, len(list))
	}
	got, code := arrayAgain(shape, func(index []int) (int, int) {
		from := make([]int, len(lists))
		for axis, list := range lists {
			from[axis] = list[index[axis]]
		}
		if slices.Contains(from, -1) {
			return fillAgain(a), 0
		}
		return elementAt(a, from), 0
	})
	return ofKind(a.Char, got, code)
}

func numbersFrom0(count int) []int {
	var list []int
	for i := range count {
		list = append(list, i)
	}
	return list
}

func takeAgain(k impl.Array, a impl.Array) (impl.Array, int) {
	a, code := axesFor(k, a)
	if code != 0 {
		return impl.Array{}, code
	}
	var shape []int
	for _, n := range k.Data {
		shape = append(shape, max(n, -n))
	}
	if noArrayHas(shape) {
		return impl.Array{}, impl.ErrLimit
	}
	var lists [][]int
	for axis, length := range a.Shape {
		list, missing := numbersFrom0(length), slices.Repeat([]int{-1}, shape[axis])
		if k.Data[axis] < 0 {
			list = slices.Concat(missing, list)[length:]
		} else {
			list = slices.Concat(list, missing)[:shape[axis]]
		}
		lists = append(lists, list)
	}
	return alongLists(a, lists)
}

func dropAgain(k impl.Array, a impl.Array) (impl.Array, int) {
	a, code := axesFor(k, a)
	if code != 0 {
		return impl.Array{}, code
	}
	var lists [][]int
	for axis, length := range a.Shape {
		lists = append(lists, slices.DeleteFunc(numbersFrom0(length), func(n int) bool {
			return n < k.Data[axis] || n >= length+k.Data[axis] && k.Data[axis] < 0
		}))
	}
	return alongLists(a, lists)
}

// pickedAgain are the indexes in an array that parts pick, in order, and the shape of all of them.
func pickedAgain(a impl.Array, parts []impl.Part) ([][]int, []int, int) {
	if len(parts) != len(a.Shape) {
		return nil, nil, impl.ErrRank
	}
	var shape []int
	var lists [][]int
	for axis, part := range parts {
		list := part.A
		if part.All {
			if part.A.Char || len(part.A.Shape)+len(part.A.Data) > 0 {
				return nil, nil, impl.ErrDomain
			}
			list = upTo(a.Shape[axis])
		}
		if !arrayOkAgain(list) || list.Char {
			return nil, nil, impl.ErrDomain
		}
		for _, n := range list.Data {
			if n <= 0 || n > a.Shape[axis] {
				return nil, nil, impl.ErrIndex
			}
		}
		shape = append(shape, list.Shape...)
		lists = append(lists, list.Data)
	}
	if noArrayHas(shape) {
		return nil, nil, impl.ErrLimit
	}
	picked := [][]int{{}}
	for _, list := range lists {
		var longer [][]int
		for _, index := range picked {
			for _, n := range list {
				longer = append(longer, append(slices.Clone(index), n-1))
			}
		}
		picked = longer
	}
	return picked, shape, 0
}

func indexAgain(a impl.Array, parts []impl.Part) (impl.Array, int) {
	if !areArrays(a) {
		return impl.Array{}, impl.ErrDomain
	}
	picked, shape, code := pickedAgain(a, parts)
	if code != 0 {
		return impl.Array{}, code
	}
	got := impl.Array{Char: a.Char, Shape: shape}
	for _, index := range picked {
		got.Data = append(got.Data, elementAt(a, index))
	}
	return got, 0
}

func replaceAgain(a impl.Array, b impl.Array, parts []impl.Part) (impl.Array, int) {
	if !areArrays(a, b) {
		return impl.Array{}, impl.ErrDomain
	}
	picked, shape, code := pickedAgain(a, parts)
	if code != 0 {
		return impl.Array{}, code
	}
	if len(b.Data) == 1 {
		b = full(b.Char, b.Data[0], shape...)
	}
	if len(b.Shape) != len(shape) {
		return impl.Array{}, impl.ErrRank
	}
	if !slices.Equal(b.Shape, shape) {
		return impl.Array{}, impl.ErrLength
	}
	if b.Char != a.Char {
		return impl.Array{}, impl.ErrDomain
	}
	got, code := arrayAgain(a.Shape, func(index []int) (int, int) {
		// The last one that picks this index says what stands there.
		for i := len(picked) - 1; i >= 0; i-- {
			if slices.Equal(picked[i], index) {
				return b.Data[i], 0
			}
		}
		return elementAt(a, index), 0
	})
	return ofKind(a.Char, got, code)
}

// question is what the functions of this chapter are asked: a list, two arrays, parts and an end.
type question struct {
	list, a, b impl.Array
	parts      []impl.Part
	first      bool
}

// checkStructure asks all functions of this chapter, and gives back the codes.
func checkStructure(t *testing.T, q question) []int {
	t.Helper()
	var codes []int
	check := func(c call, want impl.Array, code int) {
		t.Helper()
		codes = append(codes, c.agrees(t, want, code))
	}
	want, code := reshapeAgain(q.list, q.a)
	check(reshape(q.list, q.a), want, code)
	want, code = catenateAgain(q.a, q.b)
	check(catenate(q.a, q.b), want, code)
	want, code = rotateAgain(q.list, q.a, q.first)
	check(rotate(q.list, q.a, q.first), want, code)
	want, code = transposeAgain(q.list, q.a)
	check(transpose(q.list, q.a), want, code)
	want, code = takeAgain(q.list, q.a)
	check(take(q.list, q.a), want, code)
	want, code = dropAgain(q.list, q.a)
	check(drop(q.list, q.a), want, code)
	want, code = indexAgain(q.a, q.parts)
	check(index(q.a, q.parts...), want, code)
	want, code = replaceAgain(q.a, q.b, q.parts)
	check(replace(q.a, q.b, q.parts...), want, code)
	return codes
}

// TestCatenateAgreesOnEveryPairOfShapes has axes of 0 and 1 up to the highest rank, and of 0, 1 and 2 up to rank 3.
func TestCatenateAgreesOnEveryPairOfShapes(t *testing.T) {
	low := slices.DeleteFunc(shapesUpTo(2), func(shape []int) bool { return len(shape) > 3 })
	for _, shapes := range [][][]int{shapesUpTo(1), low} {
		for _, left := range shapes {
			for _, right := range shapes {
				for _, a := range both(left...) {
					for _, b := range both(right...) {
						want, code := catenateAgain(a, b)
						catenate(a, b).agrees(t, want, code)
					}
				}
			}
		}
	}
}

// listsOf are all lists of up to three of some numbers.
func listsOf(small ...int) []impl.Array {
	var lists []impl.Array
	for count := range 4 {
		for _, index := range indexesOf(slices.Repeat([]int{len(small)}, count)) {
			list := vector()
			for _, i := range index {
				list = vector(append(list.Data, small[i])...)
			}
			lists = append(lists, list)
		}
	}
	return lists
}

// TestListsAgree has every list of up to three small numbers, on arrays of up to three axes.
func TestListsAgree(t *testing.T) {
	lists := append(listsOf(-3, -2, -1, 0, 1, 2, 3), scalar(-2), scalar(0), scalar(1), scalar(3))
	for _, shape := range [][]int{{}, {2}, {0}, {2, 3}, {0, 2}, {1, 1}, {2, 1, 2}, {1, 0, 2}} {
		for _, a := range both(shape...) {
			for i, list := range lists {
				checkStructure(t, question{list: list, a: a, b: list, parts: slices.Repeat([]impl.Part{at(list)}, len(shape)), first: i%2 == 0})
			}
		}
	}
}

// list often goes together with a shape.
func (g grower) list(shape []int) impl.Array {
	var list []int
	switch g.IntN(5) {
	case 0:
		list = pick(g, ordersOf(len(shape))...)
	case 1:
		list = []int{g.IntN(9) - 4}
	case 2:
		list = g.shape(4)
	default:
		for _, length := range shape {
			list = append(list, pick(g, 0, 1, -1, length, -length, length+1, -length-1, length-1, g.IntN(9)-4))
		}
	}
	if len(list) > 0 && g.IntN(8) == 0 {
		list[g.IntN(len(list))] = pick(g, -1, 0, 2, 10000, 10001, -10001, top, -top, 1<<32)
	}
	for g.IntN(15) == 0 {
		list = append(list, g.IntN(3))
	}
	a := vector(list...)
	if len(list) == 1 && g.IntN(2) == 0 {
		a.Shape = ones(g.IntN(3))
	}
	if g.IntN(30) == 0 {
		a.Shape = append(slices.Clone(a.Shape), 1)
	}
	if g.IntN(30) == 0 {
		a = g.arrayOf(true, []int{len(list)})
	}
	if g.IntN(60) == 0 {
		g.spoil(&a)
	}
	return a
}

// partsFor are good, or wrong in one way.
func (g grower) partsFor(shape []int) []impl.Part {
	parts := g.goodParts(shape)
	if g.IntN(3) > 0 {
		return parts
	}
	if len(parts) == 0 || g.IntN(5) == 0 {
		return append(parts, pick(g, all, atOne(1), at(letter('a'))))
	}
	if g.IntN(5) == 0 {
		return parts[1:]
	}
	part := &parts[g.IntN(len(parts))]
	switch g.IntN(4) {
	case 0:
		part.All = !part.All
	case 1:
		part.A.Char = !part.A.Char
	case 2:
		g.spoil(&part.A)
	default:
		*part = atList(slices.Insert([]int{1}, g.IntN(2), pick(g, 0, -1, 2, 3, 4, 5, 10001, top, -top))...)
	}
	return parts
}

// other goes together with an array, in Catenate or in Replace.
func (g grower) other(a impl.Array, parts []impl.Part) impl.Array {
	shape := slices.Clone(a.Shape)
	switch g.IntN(6) {
	case 0, 1:
		if picked, code := indexAgain(a, parts); code == 0 {
			shape = picked.Shape
		}
	case 2:
		shape = ones(g.IntN(impl.MaxRank + 1))
	case 3:
		if len(shape) > 0 {
			shape[len(shape)-1] = g.IntN(4)
		}
	case 4:
		if len(shape) > 0 {
			shape = shape[:len(shape)-1]
		} else {
			shape = g.shape(4)
		}
	}
	if g.IntN(8) == 0 {
		shape = g.shape(4)
	}
	b := g.arrayOf(a.Char != (g.IntN(6) == 0), shape)
	if g.IntN(40) == 0 {
		g.spoil(&b)
	}
	return b
}

func TestStructureAgreesByChance(t *testing.T) {
	g := grower{rand.New(rand.NewPCG(22, 2542))}
	counts := map[[2]int]int{}
	for range 15000 {
		a := g.arrayOf(g.IntN(3) == 0, g.shape(4))
		q := question{list: g.list(a.Shape), a: a, parts: g.partsFor(a.Shape), first: g.IntN(2) == 0}
		q.b = g.other(a, q.parts)
		if g.IntN(40) == 0 {
			g.spoil(&q.a)
		}
		if g.IntN(2) == 0 && len(q.parts) == 0 {
			q.a, q.b = q.b, q.a
		}
		for function, code := range checkStructure(t, q) {
			counts[[2]int{function, code}]++
		}
	}
	wantEveryCode(t, counts, [][]int{
		{0, impl.ErrDomain, impl.ErrRank, impl.ErrLimit}, {0, impl.ErrDomain, impl.ErrRank, impl.ErrLength}, {0, impl.ErrDomain, impl.ErrLength}, {0, impl.ErrDomain, impl.ErrRank, impl.ErrLength},
		{0, impl.ErrDomain, impl.ErrRank, impl.ErrLength, impl.ErrLimit}, {0, impl.ErrDomain, impl.ErrRank, impl.ErrLength}, {0, impl.ErrDomain, impl.ErrRank, impl.ErrIndex, impl.ErrLimit}, {0, impl.ErrDomain, impl.ErrRank, impl.ErrLength, impl.ErrIndex, impl.ErrLimit},
	})
}

func FuzzStructure(f *testing.F) {
	f.Add(0, []byte{2}, []byte{1, 254}, []byte{2, 3}, []byte{1, 2, 3, 4, 5, 6}, []byte{2}, []byte{8, 9})
	f.Add(1, []byte{}, []byte{3}, []byte{3}, []byte("abc"), []byte{}, []byte("d"))
	f.Add(7, []byte{1}, []byte{255}, []byte{2, 0}, []byte{}, []byte{2, 1}, []byte{1, 1})
	f.Add(22, []byte{3}, []byte{2, 3, 1}, []byte{1, 2, 3}, []byte{1, 2, 3}, []byte{2, 2}, []byte{1})
	f.Fuzz(func(t *testing.T, flags int, shapeK []byte, dataK []byte, shapeA []byte, dataA []byte, shapeB []byte, dataB []byte) {
		isSet := func(bit int) bool { return flags&(1<<bit) != 0 }
		list, a, b := arrayFrom(isSet(5), isSet(0), shapeK, dataK), arrayFrom(isSet(1), false, shapeA, dataA), arrayFrom(isSet(2), false, shapeB, dataB)
		// Few bytes make a valid array by themselves.
		list.Data, a.Data, b.Data = fitted(list), fitted(a), fitted(b)
		q := question{list: list, a: a, b: b, first: isSet(3)}
		for i := range len(shapeA) {
			q.parts = append(q.parts, pickPart(flags>>(6+2*i), list, b))
		}
		checkStructure(t, q)
	})
}

func pickPart(flags int, list impl.Array, b impl.Array) impl.Part {
	switch flags & 3 {
	case 0:
		return all
	case 1:
		return at(list)
	case 2:
		return at(b)
	}
	return atOne(1)
}
