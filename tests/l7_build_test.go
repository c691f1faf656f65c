package tests

import (
	"fmt"
	"math"
	"slices"
	"testing"

	"loop.example/s02542/impl"
)

// wildNumbers would wrap round, or lose a half, where they are reckoned with unasked.
var wildNumbers = []int{math.MinInt, math.MinInt + 1, -1 << 62, -top, -1 << 32, -10001, 10001, 1 << 31, 1 << 32, 1<<32 + 1, 1 << 62, top, math.MaxInt - 1, math.MaxInt}

func view(off int, shape []int, strides ...int) impl.View {
	return impl.View{Off: off, Shape: shape, Strides: strides}
}

// whole is the view that WholeView gives, by a second reckoning.
func whole(shape ...int) impl.View {
	v, _ := wholeAgain(shape)
	return v
}

func copyView(v impl.View) impl.View {
	return impl.View{Off: v.Off, Shape: copyList(v.Shape), Strides: copyList(v.Strides)}
}

func isViewUntouched(got impl.View, was impl.View) bool {
	return got.Off == was.Off && isListUntouched(got.Shape, was.Shape) && isListUntouched(got.Strides, was.Strides)
}

func isViewAlike(a impl.View, b impl.View) bool {
	return a.Off == b.Off && slices.Equal(a.Shape, b.Shape) && slices.Equal(a.Strides, b.Strides)
}

func isNoView(v impl.View) bool {
	return v.Off == 0 && len(v.Shape) == 0 && len(v.Strides) == 0
}

func viewName(v impl.View) string {
	return fmt.Sprintf("view from %d of %s by %s", v.Off, listName(v.Shape), listName(v.Strides))
}

// viewCall is one call of a function that makes a view of a view and of lists.
type viewCall struct {
	name  string
	run   func(v impl.View, lists [][]int) (impl.View, bool)
	v     impl.View
	lists [][]int
}

func wholeView(shape ...int) viewCall {
	return viewCall{"WholeView", func(_ impl.View, lists [][]int) (impl.View, bool) { return impl.WholeView(lists[0]) }, impl.View{}, [][]int{shape}}
}

func flipView(v impl.View, axis int) viewCall {
	return viewCall{fmt.Sprintf("FlipView along %d", axis), func(v impl.View, _ [][]int) (impl.View, bool) { return impl.FlipView(v, axis) }, v, nil}
}

func turnView(v impl.View, p ...int) viewCall {
	return viewCall{"TurnView", func(v impl.View, lists [][]int) (impl.View, bool) { return impl.TurnView(v, lists[0]) }, v, [][]int{p}}
}

func cutView(v impl.View, from []int, shape []int) viewCall {
	return viewCall{"CutView", func(v impl.View, lists [][]int) (impl.View, bool) { return impl.CutView(v, lists[0], lists[1]) }, v, [][]int{from, shape}}
}

func pickView(v impl.View, axis int, from int, step int, n int) viewCall {
	return viewCall{fmt.Sprintf("PickView along %d, from %d by %d, %d elements", axis, from, step, n), func(v impl.View, _ [][]int) (impl.View, bool) { return impl.PickView(v, axis, from, step, n) }, v, nil}
}

func foldView(v impl.View, shape ...int) viewCall {
	return viewCall{"FoldView", func(v impl.View, lists [][]int) (impl.View, bool) { return impl.FoldView(v, lists[0]) }, v, [][]int{shape}}
}

func (c viewCall) String() string {
	text := c.name + ", of a " + viewName(c.v)
	for _, list := range c.lists {
		text += ", with " + listName(list)
	}
	return text
}

// answer makes the call, and asks of it what holds of every call, whatever it answers.
func (c viewCall) answer(t *testing.T) (impl.View, bool) {
	t.Helper()
	v := copyView(c.v)
	var own [][]int
	for _, list := range c.lists {
		own = append(own, copyList(list))
	}
	got, ok := c.run(v, own)
	c.wantUntouched(t, v, own)
	if !ok && !isNoView(got) {
		t.Fatalf("%s: a %s beside false", c, viewName(got))
	}
	if ok && !isFormedAgain(got) {
		t.Fatalf("%s: a %s is not formed", c, viewName(got))
	}
	kept := impl.View{Off: got.Off, Shape: slices.Clone(got.Shape), Strides: slices.Clone(got.Strides)}
	writeOver(got.Shape)
	if !slices.Equal(got.Strides, kept.Strides) {
		t.Fatalf("%s: the answer's Shape and Strides share memory", c)
	}
	writeOver(got.Strides)
	c.wantUntouched(t, v, own)
	return kept, ok
}

func (c viewCall) wantUntouched(t *testing.T, v impl.View, own [][]int) {
	t.Helper()
	if !isViewUntouched(v, c.v) {
		t.Fatalf("%s: the view was written into", c)
	}
	for i, list := range c.lists {
		if !isListUntouched(own[i], list) {
			t.Fatalf("%s: list %d was written into", c, i)
		}
	}
}

func (c viewCall) gives(t *testing.T, want impl.View) {
	t.Helper()
	c.agrees(t, want, true)
}

func (c viewCall) fails(t *testing.T) {
	t.Helper()
	c.agrees(t, impl.View{}, false)
}

func (c viewCall) agrees(t *testing.T, want impl.View, wantOk bool) {
	t.Helper()
	got, ok := c.answer(t)
	if ok != wantOk || !isViewAlike(got, want) {
		t.Fatalf("%s: a %s, %v; want a %s, %v", c, viewName(got), ok, viewName(want), wantOk)
	}
}

// placesOf asks ViewOk and Places, and what holds of them whatever they answer.
func placesOf(t *testing.T, v impl.View, cells int) ([]int, bool) {
	t.Helper()
	own := copyView(v)
	ok := impl.ViewOk(own, cells)
	places := impl.Places(own, cells)
	if !isViewUntouched(own, v) {
		t.Fatalf("%s: written into by ViewOk or Places", viewName(v))
	}
	if !ok && len(places) != 0 {
		t.Fatalf("%s: %s are places in %d cells, though it is not ok", viewName(v), listName(places), cells)
	}
	kept := slices.Clone(places)
	writeOver(places)
	if !isViewUntouched(own, v) || !slices.Equal(impl.Places(own, cells), kept) {
		t.Fatalf("%s: its places are not the caller's own", viewName(v))
	}
	return kept, ok
}

func wantPlaces(t *testing.T, v impl.View, cells int, want ...int) {
	t.Helper()
	if got, ok := placesOf(t, v, cells); !ok || !slices.Equal(got, want) {
		t.Errorf("%s: the places %s in %d cells, %v; want %s", viewName(v), listName(got), cells, ok, listName(want))
	}
}

func wantNoPlaces(t *testing.T, v impl.View, cells int) {
	t.Helper()
	if _, ok := placesOf(t, v, cells); ok {
		t.Errorf("%s: is ok in %d cells", viewName(v), cells)
	}
}

func wantLine(t *testing.T, v impl.View, want int, wantOk bool) {
	t.Helper()
	own := copyView(v)
	if got, ok := impl.LineView(own); got != want || ok != wantOk {
		t.Errorf("LineView of a %s: %d, %v; want %d, %v", viewName(v), got, ok, want, wantOk)
	}
	if !isViewUntouched(own, v) {
		t.Errorf("LineView of a %s: written into", viewName(v))
	}
}
