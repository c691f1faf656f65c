package tests

import (
	"math/rand/v2"
	"slices"
	"testing"

	"loop.example/s02542/impl"
)

func isShapeAgain(shape []int) bool {
	return !noArrayHas(shape) && !slices.ContainsFunc(shape, func(n int) bool { return n < 0 })
}

func isFormedAgain(v impl.View) bool {
	numbers := append([]int{v.Off}, v.Strides...)
	return isShapeAgain(v.Shape) && len(numbers) == len(v.Shape)+1 && slices.Min(numbers) >= -10000 && slices.Max(numbers) <= 10000
}

// ifFormed is what a function of a view answers when all that it asks for holds.
func ifFormed(v impl.View) (impl.View, bool) {
	if !isFormedAgain(v) {
		return impl.View{}, false
	}
	return v, true
}

// placeOf is where an index lies, also one that the view does not have.
func placeOf(v impl.View, index []int) int {
	place := v.Off
	for axis, n := range index {
		place += n * v.Strides[axis]
	}
	return place
}

// onOneAxis is an index that is 0 along all axes but one.
func onOneAxis(v impl.View, axis int, n int) []int {
	return replacedAt(make([]int, len(v.Shape)), axis, n)
}

// allPlaces are those of a view that is formed, wherever they are.
func allPlaces(v impl.View) []int {
	var places []int
	for _, index := range indexesOf(v.Shape) {
		places = append(places, placeOf(v, index))
	}
	return places
}

func viewOkAgain(v impl.View, cells int) bool {
	if cells < 0 || cells > 10000 || !isFormedAgain(v) {
		return false
	}
	places := allPlaces(v)
	return len(places) == 0 || slices.Min(places) >= 0 && slices.Max(places) < cells
}

func wholeAgain(shape []int) (impl.View, bool) {
	if !isShapeAgain(shape) {
		return impl.View{}, false
	}
	v := impl.View{Shape: shape}
	for axis := range shape {
		product := 1
		for _, length := range shape[axis+1:] {
			if length != 0 {
				product *= length
			}
		}
		v.Strides = append(v.Strides, product)
	}
	return ifFormed(v)
}

func flipAgain(v impl.View, axis int) (impl.View, bool) {
	if !isFormedAgain(v) || axis < 0 || axis >= len(v.Shape) {
		return impl.View{}, false
	}
	if v.Shape[axis] < 2 {
		return v, true
	}
	last := placeOf(v, onOneAxis(v, axis, v.Shape[axis]-1))
	next := placeOf(v, onOneAxis(v, axis, v.Shape[axis]-2))
	return ifFormed(impl.View{Off: last, Shape: v.Shape, Strides: replacedAt(v.Strides, axis, next-last)})
}

func turnAgain(v impl.View, p []int) (impl.View, bool) {
	if !isFormedAgain(v) || !slices.ContainsFunc(ordersOf(len(v.Shape)), func(order []int) bool { return slices.Equal(order, p) }) {
		return impl.View{}, false
	}
	turned := impl.View{Off: v.Off}
	for _, axis := range undone(p) {
		turned.Shape = append(turned.Shape, v.Shape[axis-1])
		turned.Strides = append(turned.Strides, v.Strides[axis-1])
	}
	return ifFormed(turned)
}

func cutAgain(v impl.View, from []int, shape []int) (impl.View, bool) {
	if !isFormedAgain(v) || len(from) != len(v.Shape) || len(shape) != len(v.Shape) {
		return impl.View{}, false
	}
	for axis, n := range v.Shape {
		if from[axis] < 0 || from[axis] > n || shape[axis] < 0 || shape[axis] > n-from[axis] {
			return impl.View{}, false
		}
	}
	return ifFormed(impl.View{Off: placeOf(v, from), Shape: shape, Strides: v.Strides})
}

func pickAgain(v impl.View, axis int, from int, step int, n int) (impl.View, bool) {
	if !isFormedAgain(v) || axis < 0 || axis >= len(v.Shape) || n < 0 || n > 10000 || step < -10000 || step > 10000 {
		return impl.View{}, false
	}
	number := from
	for range n {
		if number < 0 || number >= v.Shape[axis] {
			return impl.View{}, false
		}
		number += step
	}
	stride := placeOf(v, onOneAxis(v, axis, step)) - v.Off
	picked := impl.View{Off: v.Off, Shape: replacedAt(v.Shape, axis, n), Strides: replacedAt(v.Strides, axis, stride)}
	if n > 0 {
		picked.Off = placeOf(v, onOneAxis(v, axis, from))
	}
	return ifFormed(picked)
}

func lineAgain(v impl.View) (int, bool) {
	if !isFormedAgain(v) {
		return 0, false
	}
	return distanceOf(allPlaces(v))
}

func distanceOf(places []int) (int, bool) {
	if len(places) < 2 {
		return 1, true
	}
	for i := 2; i < len(places); i++ {
		if places[i]-places[i-1] != places[1]-places[0] {
			return 0, false
		}
	}
	return places[1] - places[0], true
}

func foldViewAgain(v impl.View, shape []int) (impl.View, bool) {
	folded, ok := wholeAgain(shape)
	if !isFormedAgain(v) || !ok {
		return impl.View{}, false
	}
	count := len(indexesOf(v.Shape))
	distance, ok := lineAgain(v)
	if count == 1 {
		distance = 0
	} else if !ok || len(indexesOf(shape)) > count {
		return impl.View{}, false
	}
	folded.Off = v.Off
	for axis := range folded.Strides {
		folded.Strides[axis] *= distance
	}
	return ifFormed(folded)
}

// viewQuestion is a view, and all that the functions of views are given beside it.
type viewQuestion struct {
	v     impl.View
	cells int
	axis  int
	p     []int
	from  []int
	cut   []int
	first int
	step  int
	n     int
	shape []int
}

// checkViews asks all functions of this chapter, and gives back which of them said true.
func checkViews(t *testing.T, q viewQuestion) []bool {
	t.Helper()
	isOk := viewOkAgain(q.v, q.cells)
	if isOk {
		wantPlaces(t, q.v, q.cells, allPlaces(q.v)...)
	} else {
		wantNoPlaces(t, q.v, q.cells)
	}
	distance, isLine := lineAgain(q.v)
	wantLine(t, q.v, distance, isLine)
	answers := []bool{isOk, isLine}
	check := func(c viewCall, want impl.View, ok bool) {
		t.Helper()
		c.agrees(t, want, ok)
		answers = append(answers, ok)
	}
	want, ok := wholeAgain(q.shape)
	check(wholeView(q.shape...), want, ok)
	want, ok = flipAgain(q.v, q.axis)
	check(flipView(q.v, q.axis), want, ok)
	want, ok = turnAgain(q.v, q.p)
	check(turnView(q.v, q.p...), want, ok)
	want, ok = cutAgain(q.v, q.from, q.cut)
	check(cutView(q.v, q.from, q.cut), want, ok)
	want, ok = pickAgain(q.v, q.axis, q.first, q.step, q.n)
	check(pickView(q.v, q.axis, q.first, q.step, q.n), want, ok)
	want, ok = foldViewAgain(q.v, q.shape)
	check(foldView(q.v, q.shape...), want, ok)
	return answers
}

// view has strides by chance, those of a line or those that a whole one may get, and mostly lies from a small offset on.
func (g grower) view() impl.View {
	shape := g.shape(pick(g, 4, 4, 4, 20))
	v := whole(shape...)
	switch g.IntN(3) {
	case 0:
		for axis := range v.Strides {
			v.Strides[axis] = pick(g, 0, 1, -1, 2, -3, g.IntN(41)-20, g.IntN(20001)-10000, 10000, -10000)
		}
	case 1:
		distance := pick(g, 1, 1, -1, 2, 3, 0, -7)
		for axis := range v.Strides {
			v.Strides[axis] *= distance
		}
	default:
		for axis := range v.Strides {
			if g.IntN(3) == 0 {
				v, _ = flipAgain(v, axis)
			}
		}
		v, _ = turnAgain(v, pick(g, ordersOf(len(shape))...))
	}
	v.Strides = g.withOneMore(v.Strides, v.Shape)
	v.Off += pick(g, 0, 0, g.IntN(30), g.IntN(300), -g.IntN(3), 5000, 9990+g.IntN(11), -10000+g.IntN(11))
	if g.IntN(40) == 0 {
		g.spoilView(&v)
	}
	return v
}

// withOneMore changes the stride of an axis of one element, which no place hangs on.
func (g grower) withOneMore(strides []int, shape []int) []int {
	strides = slices.Clone(strides)
	for axis, length := range shape {
		if length == 1 && g.IntN(2) == 0 {
			strides[axis] = g.IntN(101) - 50
		}
	}
	return strides
}

func (g grower) spoilView(v *impl.View) {
	switch g.IntN(5) {
	case 0:
		v.Off = pick(g, wildNumbers...)
	case 1:
		v.Shape = append(v.Shape, 1)
	case 2:
		v.Strides = append(v.Strides, 1)
	default:
		if len(v.Shape) > 0 {
			lists := [][]int{slices.Clone(v.Shape), slices.Clone(v.Strides)}
			list := pick(g, lists...)
			list[g.IntN(len(list))] = pick(g, append(wildNumbers, -1)...)
			v.Shape, v.Strides = lists[0], lists[1]
		}
	}
}

// viewQuestion often has what the view may be changed by.
func (g grower) viewQuestion() viewQuestion {
	v := g.view()
	rank := min(len(v.Shape), len(v.Strides), 5)
	q := viewQuestion{v: v, cells: pick(g, 0, 1, 20, 400, 10000, 10000), axis: g.IntN(rank+2) - 1, p: pick(g, ordersOf(rank)...), step: pick(g, 1, 1, -1, 2, -2, 0, 3, 10000, -10000)}
	length := 3
	if q.axis >= 0 && q.axis < rank {
		length = max(min(v.Shape[q.axis], 50), 0)
	}
	q.first, q.n = g.IntN(length+2)-1, g.IntN(length+1)
	for _, n := range v.Shape {
		n = max(min(n, 50), 0)
		from := g.IntN(n + 1)
		q.from = append(q.from, from)
		q.cut = append(q.cut, g.IntN(n-from+1))
	}
	q.shape = pick(g, g.shape(4), g.shape(4), v.Shape, ones(g.IntN(6)), []int{pick(g, 0, 1, 2, 3, 4, 6, 12)})
	if g.IntN(8) == 0 {
		g.spoilQuestion(&q)
	}
	return q
}

// spoilQuestion puts a number that is mostly wrong at one place.
func (g grower) spoilQuestion(q *viewQuestion) {
	n := pick(g, append(wildNumbers, -1, 0, 1, 2, 6, 10000, -10000)...)
	lists := []*[]int{&q.p, &q.from, &q.cut, &q.shape}
	numbers := []*int{&q.cells, &q.axis, &q.first, &q.step, &q.n}
	if g.IntN(2) == 0 {
		*pick(g, numbers...) = n
		return
	}
	list := pick(g, lists...)
	if len(*list) == 0 || g.IntN(4) == 0 {
		*list = append(slices.Clone(*list), n)
		return
	}
	*list = replacedAt(*list, g.IntN(len(*list)), n)
	if g.IntN(4) == 0 {
		*list = (*list)[1:]
	}
}

func TestViewsAgreeByChance(t *testing.T) {
	g := grower{rand.New(rand.NewPCG(41, 2542))}
	counts := map[[2]int]int{}
	for range 40000 {
		for function, ok := range checkViews(t, g.viewQuestion()) {
			answer := 0
			if ok {
				answer = 1
			}
			counts[[2]int{function, answer}]++
		}
	}
	wantEveryCode(t, counts, slices.Repeat([][]int{{0, 1}}, 8))
}

// TestViewsAgreeOnSmallShapes has every shape of up to MaxRank small axes, with strides of each sign.
func TestViewsAgreeOnSmallShapes(t *testing.T) {
	g := grower{rand.New(rand.NewPCG(42, 2542))}
	for _, shape := range shapesUpTo(3) {
		for _, off := range []int{0, 7, -10000, 10000} {
			q := g.viewQuestion()
			q.v = impl.View{Off: off, Shape: shape}
			for range shape {
				q.v.Strides = append(q.v.Strides, pick(g, -12, -6, -3, -2, -1, 0, 1, 2, 3, 4, 6, 12))
			}
			q.axis, q.p = g.IntN(len(shape)+1), pick(g, ordersOf(len(shape))...)
			checkViews(t, q)
		}
	}
}

func FuzzViews(f *testing.F) {
	f.Add(0, []byte{2, 3}, []byte{3, 1}, []byte{2, 1}, []byte{0, 1}, []byte{1, 2}, []byte{6}, 6, 1, 2, -2, 2)
	f.Add(5, []byte{0, 4}, []byte{4, 1}, []byte{1, 2}, []byte{0, 4}, []byte{0, 0}, []byte{4, 0}, 0, 0, 99, 5, 0)
	f.Add(9, []byte{}, []byte{}, []byte{}, []byte{}, []byte{}, []byte{2, 2}, 10, 0, 0, 1, 1)
	f.Add(-10000, []byte{10, 10}, []byte{250, 5}, []byte{1, 1}, []byte{10, 0}, []byte{0, 10}, []byte{100}, 10000, 1, 9, -1, 10)
	f.Fuzz(func(t *testing.T, off int, shape []byte, strides []byte, p []byte, from []byte, cut []byte, other []byte, cells int, axis int, first int, step int, n int) {
		list := func(bytes []byte) []int { return arrayFrom(false, false, nil, bytes).Data }
		checkViews(t, viewQuestion{v: view(off, list(shape), list(strides)...), cells: cells, axis: axis, p: list(p), from: list(from), cut: list(cut), first: first, step: step, n: n, shape: list(other)})
	})
}
