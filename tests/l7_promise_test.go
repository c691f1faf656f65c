package tests

import (
	"math/rand/v2"
	"slices"
	"testing"

	"loop.example/s02542/impl"
)

// manyViews lie within MaxCells, and are of every rank, with strides of each sign, with and without elements.
func manyViews() []impl.View {
	g := grower{rand.New(rand.NewPCG(43, 2542))}
	var views []impl.View
	for _, shape := range slices.Concat(shapesUpTo(2), [][]int{{3}, {7}, {30}, {3, 4}, {4, 3}, {5, 0}, {2, 3, 4}, {4, 1, 3}, {3, 2, 1, 4}, {2, 3, 1, 2, 4}}) {
		views = append(views, whole(shape...))
		for range 2 {
			v := impl.View{Shape: shape}
			for range shape {
				v.Strides = append(v.Strides, pick(g, -40, -7, -2, -1, 0, 1, 2, 3, 25))
			}
			if places := allPlaces(v); len(places) > 0 {
				v.Off = -slices.Min(places)
			}
			v.Off += pick(g, 0, 0, 1, 100)
			views = append(views, v)
		}
	}
	return views
}

// placesArray is an array of a view's places.
func placesArray(t *testing.T, v impl.View) impl.Array {
	t.Helper()
	places, ok := placesOf(t, v, impl.MaxCells)
	if !ok {
		t.Fatalf("%s: is not ok", viewName(v))
	}
	return numbers(v.Shape, places...)
}

// keepsPromise9 asks that the places behind a call are those that stand in an array, all of them places of the view before it; it says whether the call said true.
func (c viewCall) keepsPromise9(t *testing.T, want impl.Array) bool {
	t.Helper()
	got, ok := c.answer(t)
	if !ok {
		return false
	}
	places := placesArray(t, got)
	if !isAlike(places, want) {
		t.Fatalf("%s: the places %s; want %s", c, arrayName(places), arrayName(want))
	}
	before := placesArray(t, c.v).Data
	for _, place := range places.Data {
		if !slices.Contains(before, place) {
			t.Fatalf("%s: the place %d is none of %s", c, place, listName(before))
		}
	}
	return true
}

// mustKeepPromise9 asks besides that the call says true.
func (c viewCall) mustKeepPromise9(t *testing.T, want impl.Array) {
	t.Helper()
	if !c.keepsPromise9(t, want) {
		t.Fatalf("%s: is refused", c)
	}
}

// along has parts that are all but along one axis.
func along(rank int, axis int, list ...int) []impl.Part {
	parts := allOf(rank)
	parts[axis] = atList(list...)
	return parts
}

func TestPlacesOfAWholeView(t *testing.T) {
	for _, shape := range slices.Concat(shapesUpTo(3), goodShapes) {
		v, ok := wholeView(shape...).answer(t)
		count := len(indexesOf(shape))
		if !ok {
			t.Fatalf("WholeView of %s is refused", listName(shape))
		}
		wantPlaces(t, v, count, numbersFrom0(count)...)
		if count > 0 {
			wantNoPlaces(t, v, count-1)
		}
		wantLine(t, v, 1, true)
	}
}

func TestPlacesOfAFlippedView(t *testing.T) {
	for _, v := range manyViews() {
		for axis, length := range v.Shape {
			backwards := upTo(length).Data
			slices.Reverse(backwards)
			c := flipView(v, axis)
			c.mustKeepPromise9(t, answerOf(t, index(placesArray(t, v), along(len(v.Shape), axis, backwards...)...)))
			flipped, _ := c.answer(t)
			flipView(flipped, axis).gives(t, v)
		}
		if rank := len(v.Shape); rank > 0 {
			flipView(v, rank-1).mustKeepPromise9(t, answerOf(t, monad(impl.FnRev, placesArray(t, v))))
			flipView(v, 0).mustKeepPromise9(t, answerOf(t, monad(impl.FnRevF, placesArray(t, v))))
		}
	}
}

func TestPlacesOfATurnedView(t *testing.T) {
	for i, v := range manyViews() {
		orders := ordersOf(len(v.Shape))
		// Many views take turns at the many orders of a high rank.
		stride := 1 + len(orders)/24
		for at := i % stride; at < len(orders); at += stride {
			order := orders[at]
			c := turnView(v, order...)
			c.mustKeepPromise9(t, answerOf(t, transpose(vector(order...), placesArray(t, v))))
			turned, _ := c.answer(t)
			turnView(turned, undone(order)...).gives(t, v)
		}
	}
}

// TestPlacesOfACutView drops what is in front, and takes what is left as far as the shape goes.
func TestPlacesOfACutView(t *testing.T) {
	g := grower{rand.New(rand.NewPCG(44, 2542))}
	for _, v := range manyViews() {
		places := placesArray(t, v)
		for range 12 {
			from, shape := make([]int, len(v.Shape)), make([]int, len(v.Shape))
			for axis, n := range v.Shape {
				from[axis] = g.IntN(n + 1)
				shape[axis] = g.IntN(n - from[axis] + 1)
			}
			rest := answerOf(t, drop(vector(from...), places))
			cutView(v, from, shape).mustKeepPromise9(t, answerOf(t, take(vector(shape...), rest)))
		}
		cutView(v, make([]int, len(v.Shape)), v.Shape).mustKeepPromise9(t, places)
	}
}

// TestPlacesOfAPickedView goes along each axis, from each element on, in each step, as far as there are elements.
func TestPlacesOfAPickedView(t *testing.T) {
	for _, v := range manyViews() {
		places := placesArray(t, v)
		for axis, length := range v.Shape {
			for from := range length + 1 {
				for _, step := range []int{-2, -1, 0, 1, 3} {
					var list []int
					for number := from; number >= 0 && number < length && len(list) < 3; number += step {
						list = append(list, number+1)
					}
					for n := range len(list) + 1 {
						pickView(v, axis, from, step, n).mustKeepPromise9(t, answerOf(t, index(places, along(len(v.Shape), axis, list[:n]...)...)))
					}
				}
			}
		}
	}
}

// TestPlacesOfAFoldedView has shapes with as many elements, with fewer and with none.
func TestPlacesOfAFoldedView(t *testing.T) {
	g := grower{rand.New(rand.NewPCG(45, 2542))}
	for _, v := range manyViews() {
		places := placesArray(t, v)
		count := len(places.Data)
		_, isLine := distanceOf(places.Data)
		shapes := [][]int{{}, {0}, {1}, {count}, {count, 1}, {1, count}, {2, count / 2}, {count / 2, 2}, {count / 4, 2, 1, 2}, {count + 1}, {2, 0, 3}, g.shape(3), v.Shape}
		for _, shape := range shapes {
			folded := answerOf(t, reshape(vector(shape...), places))
			isFitting := count == 1 || isLine && len(folded.Data) <= count
			if foldView(v, shape...).keepsPromise9(t, folded) != isFitting {
				t.Fatalf("FoldView of a %s to %s: %v", viewName(v), listName(shape), !isFitting)
			}
		}
	}
}

// TestLineViewIsTheDistanceOfPlaces holds LineView against the places themselves.
func TestLineViewIsTheDistanceOfPlaces(t *testing.T) {
	lines, others := 0, 0
	for _, v := range manyViews() {
		distance, ok := distanceOf(placesArray(t, v).Data)
		wantLine(t, v, distance, ok)
		if !ok {
			others++
		} else if len(allPlaces(v)) > 2 {
			lines++
		}
	}
	if lines < 50 || others < 50 {
		t.Errorf("%d lines and %d others only", lines, others)
	}
}

// TestPlacesBehindManyChanges changes a view and the array of its places side by side, again and again.
func TestPlacesBehindManyChanges(t *testing.T) {
	g := grower{rand.New(rand.NewPCG(46, 2542))}
	for range 1500 {
		v := whole(pick(g, []int{100}, []int{10, 12}, []int{4, 5, 6}, []int{2, 3, 4, 5}, []int{3, 2, 4, 2, 3})...)
		places := placesArray(t, v)
		for range 8 {
			c, want := g.change9(t, v, places)
			if !c.keepsPromise9(t, want) {
				continue
			}
			v, _ = c.answer(t)
			places = want
		}
	}
}

// change9 is a change of a view by chance, and what the same change makes of the array of its places.
func (g grower) change9(t *testing.T, v impl.View, places impl.Array) (viewCall, impl.Array) {
	rank := len(v.Shape)
	if rank == 0 || g.IntN(5) == 0 {
		shape := pick(g, []int{len(places.Data)}, []int{2, len(places.Data) / 2}, []int{3}, []int{2, 2, 2})
		return foldView(v, shape...), answerOf(t, reshape(vector(shape...), places))
	}
	axis := g.IntN(rank)
	length := v.Shape[axis]
	switch g.IntN(4) {
	case 0:
		backwards := upTo(length).Data
		slices.Reverse(backwards)
		return flipView(v, axis), answerOf(t, index(places, along(rank, axis, backwards...)...))
	case 1:
		order := pick(g, ordersOf(rank)...)
		return turnView(v, order...), answerOf(t, transpose(vector(order...), places))
	case 2:
		from := onOneAxis(v, axis, g.IntN(min(length, 2)+1))
		rest := answerOf(t, drop(vector(from...), places))
		return cutView(v, from, rest.Shape), rest
	}
	from, step := g.IntN(length+1), pick(g, 1, -1, 2, -2, 0)
	var list []int
	for number := from; number >= 0 && number < length && len(list) < 5; number += step {
		list = append(list, number+1)
	}
	return pickView(v, axis, from, step, len(list)), answerOf(t, index(places, along(rank, axis, list...)...))
}

// TestViewsOfOneListTwice hands in the same list at every place.
func TestViewsOfOneListTwice(t *testing.T) {
	was := []int{2, 1}
	list, zeros := copyList(was), copyList([]int{0, 0})
	v := impl.View{Off: 3, Shape: list, Strides: list}
	for name, run := range map[string]func() (impl.View, bool){
		"WholeView": func() (impl.View, bool) { return impl.WholeView(list) },
		"FlipView":  func() (impl.View, bool) { return impl.FlipView(v, 0) },
		"TurnView":  func() (impl.View, bool) { return impl.TurnView(v, list) },
		"CutView": func() (impl.View, bool) {
			return impl.CutView(impl.View{Shape: zeros, Strides: zeros}, zeros, zeros)
		},
		"PickView": func() (impl.View, bool) { return impl.PickView(v, 0, 1, -1, 2) },
		"FoldView": func() (impl.View, bool) { return impl.FoldView(v, list) },
	} {
		got, ok := run()
		if !ok {
			t.Errorf("%s: is refused", name)
		}
		kept := slices.Clone(got.Strides)
		writeOver(got.Shape)
		if !slices.Equal(got.Strides, kept) {
			t.Errorf("%s: the answer's lists share memory", name)
		}
		writeOver(got.Strides)
		if !isListUntouched(list, was) || !isListUntouched(zeros, []int{0, 0}) {
			t.Errorf("%s: an argument was written into, or shares memory with the answer", name)
		}
	}
}
