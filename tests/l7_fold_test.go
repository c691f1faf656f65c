package tests

import (
	"slices"
	"testing"

	"loop.example/s02542/impl"
)

func TestLineView(t *testing.T) {
	wantLine(t, view(3, []int{5}, 2), 2, true)
	wantLine(t, view(3, []int{5}, -10000), -10000, true)
	wantLine(t, view(3, []int{5}, 0), 0, true)
	wantLine(t, view(3, []int{2}, 10000), 10000, true)
	wantLine(t, view(0, []int{2, 3}, 3, 1), 1, true)
	wantLine(t, view(5, []int{2, 3}, -3, -1), -1, true)
	wantLine(t, view(5, []int{2, 3}, -6, -2), -2, true)
	wantLine(t, view(5, []int{2, 3}, 0, 0), 0, true)
	wantLine(t, view(0, []int{100, 100}, 10000, 100), 100, true)
	wantLine(t, view(0, []int{2, 2, 2, 2, 2}, 16, 8, 4, 2, 1), 1, true)
	for _, v := range []impl.View{
		view(0, []int{2, 3}, 4, 1), view(0, []int{2, 3}, 2, 1), view(0, []int{2, 3}, -3, 1), view(0, []int{2, 3}, 3, -1), view(0, []int{3, 2}, 1, 3), view(0, []int{2, 2}, 0, 1), view(0, []int{2, 2}, 1, 0), view(0, []int{2, 2}, 1, 1),
		view(0, []int{2, 2, 2, 2, 2}, 16, 8, 4, 2, 2), view(0, []int{2, 2, 2, 2, 2}, 15, 8, 4, 2, 1), view(0, []int{2, 2, 2, 2, 2}, 16, 8, 5, 2, 1), view(0, []int{100, 100}, 10000, 101),
	} {
		wantLine(t, v, 0, false)
	}
}

// TestLineViewOfFewElements has no next element to lie at a distance.
func TestLineViewOfFewElements(t *testing.T) {
	for _, stride := range []int{0, 1, -1, 2, 10000, -10000} {
		for rank := range impl.MaxRank + 1 {
			wantLine(t, view(7, ones(rank), slices.Repeat([]int{stride}, rank)...), 1, true)
			for axis := range rank {
				shape := replacedAt(slices.Repeat([]int{3}, rank), axis, 0)
				wantLine(t, view(-9, shape, slices.Repeat([]int{stride}, rank)...), 1, true)
			}
			for axis := range rank {
				wantLine(t, view(7, replacedAt(ones(rank), axis, 2), replacedAt(slices.Repeat([]int{-3}, rank), axis, stride)...), stride, true)
			}
		}
	}
}

// TestLineViewAcrossAxesOfOne has axes of one in front, between and behind, whose strides no step is made by.
func TestLineViewAcrossAxesOfOne(t *testing.T) {
	for _, other := range []int{0, 1, -1, 5, 6, 10000, -10000} {
		wantLine(t, view(0, []int{1, 2, 3}, other, 6, 2), 2, true)
		wantLine(t, view(0, []int{2, 1, 3}, 6, other, 2), 2, true)
		wantLine(t, view(0, []int{2, 3, 1}, 6, 2, other), 2, true)
		wantLine(t, view(0, []int{1, 2, 1, 3, 1}, other, 6, -other, 2, other), 2, true)
		wantLine(t, view(0, []int{2, 1, 3}, 5, other, 2), 0, false)
		wantLine(t, view(0, []int{2, 3, 1}, 7, 2, other), 0, false)
		wantLine(t, view(0, []int{1, 4, 1}, 0, other, 3), other, true)
	}
}

func TestFoldView(t *testing.T) {
	foldView(whole(2, 3), 6).gives(t, whole(6))
	foldView(whole(2, 3), 3, 2).gives(t, whole(3, 2))
	foldView(whole(2, 3), 4).gives(t, whole(4))
	foldView(whole(2, 3)).gives(t, whole())
	foldView(whole(2, 3), 1).gives(t, whole(1))
	foldView(whole(2, 3), 1, 2, 1).gives(t, view(0, []int{1, 2, 1}, 2, 1, 1))
	foldView(whole(2, 3), 2, 3).gives(t, whole(2, 3))
	foldView(view(11, []int{6}, -2), 2, 2).gives(t, view(11, []int{2, 2}, -4, -2))
	foldView(view(11, []int{6}, 0), 2, 3).gives(t, view(11, []int{2, 3}, 0, 0))
	foldView(view(5, []int{2, 1, 3}, 9, 77, 3), 3, 2).gives(t, view(5, []int{3, 2}, 6, 3))
	foldView(whole(32), 2, 2, 2, 2, 2).gives(t, whole(2, 2, 2, 2, 2))
	foldView(whole(10000), 100, 100).gives(t, whole(100, 100))
	foldView(whole(2, 3), 7).fails(t)
	foldView(whole(2, 3), 2, 4).fails(t)
	foldView(whole(2, 3), 2, 2, 2).fails(t)
	foldView(view(0, []int{2}, 0), 3).fails(t)
	foldView(view(0, []int{2}, 0), 10000).fails(t)
}

// TestFoldViewOfNoLine refuses even what would be a line by itself.
func TestFoldViewOfNoLine(t *testing.T) {
	v := view(0, []int{3, 2}, 1, 3)
	for _, shape := range [][]int{{}, {0}, {1}, {2}, {3, 2}, {6}, {0, 5}, {7}} {
		foldView(v, shape...).fails(t)
	}
}

// TestFoldViewOfOneElement takes any shape, and all strides are 0.
func TestFoldViewOfOneElement(t *testing.T) {
	for rank := range impl.MaxRank + 1 {
		for _, off := range []int{0, 3, 10000, -10000} {
			one := view(off, ones(rank), slices.Repeat([]int{7}, rank)...)
			for _, shape := range goodShapes {
				foldView(one, shape...).gives(t, view(off, shape, make([]int, len(shape))...))
			}
			for _, shape := range badShapes {
				foldView(one, shape...).fails(t)
			}
		}
	}
}

// TestFoldViewToNoElements has the strides of WholeView, whatever the view's own are.
func TestFoldViewToNoElements(t *testing.T) {
	foldView(whole(6), 0).gives(t, whole(0))
	foldView(view(4, []int{6}, -3), 0, 4).gives(t, view(4, []int{0, 4}, -12, -3))
	foldView(view(4, []int{6}, -3), 2, 0, 5).gives(t, view(4, []int{2, 0, 5}, -15, -15, -3))
	foldView(view(4, []int{6}, 0), 10000, 0).gives(t, view(4, []int{10000, 0}, 0, 0))
	foldView(view(4, []int{6}, -2), 0, 5000).gives(t, view(4, []int{0, 5000}, -10000, -2))
	foldView(view(4, []int{6}, -2), 0, 5001).fails(t)
}

// TestFoldViewWithoutElements goes only to shapes without elements, by the distance 1.
func TestFoldViewWithoutElements(t *testing.T) {
	for _, v := range []impl.View{whole(0), view(9, []int{0}, 5), view(9, []int{3, 0}, 1, 3), view(-10000, []int{0, 3, 2}, 10000, -10000, 77), view(9, []int{0, 1}, 0, 0), view(10000, make([]int, 5), 1, 2, 3, 4, 5)} {
		for _, shape := range goodShapes {
			c := foldView(v, shape...)
			if slices.Contains(shape, 0) {
				want := whole(shape...)
				want.Off = v.Off
				c.gives(t, want)
			} else {
				c.fails(t)
			}
		}
	}
}

// TestFoldViewJustFormed has a stride at the ends of what it may be, and beyond, also along axes that no step is made by.
func TestFoldViewJustFormed(t *testing.T) {
	foldView(view(0, []int{4}, 5000), 2, 2).gives(t, view(0, []int{2, 2}, 10000, 5000))
	foldView(view(0, []int{4}, 5001), 2, 2).fails(t)
	foldView(view(0, []int{4}, -5000), 2, 2).gives(t, view(0, []int{2, 2}, -10000, -5000))
	foldView(view(0, []int{4}, -5001), 2, 2).fails(t)
	foldView(view(0, []int{4}, 2500), 1, 4).gives(t, view(0, []int{1, 4}, 10000, 2500))
	foldView(view(0, []int{4}, 2501), 1, 4).fails(t)
	foldView(view(0, []int{4}, 2501), 4, 1).gives(t, view(0, []int{4, 1}, 2501, 2501))
	foldView(view(0, []int{10000}, 10000), 10000).gives(t, view(0, []int{10000}, 10000))
	foldView(view(0, []int{10000}, 10000), 1, 10000).fails(t)
	foldView(view(0, []int{10000}, 1), 1, 10000).gives(t, view(0, []int{1, 10000}, 10000, 1))
	foldView(view(0, []int{10000}, -2), 1, 10000).fails(t)
}

func TestFoldViewToNoShape(t *testing.T) {
	for _, v := range []impl.View{whole(), whole(0), whole(6), whole(10000), view(0, []int{10000}, 0)} {
		for _, shape := range badShapes {
			foldView(v, shape...).fails(t)
		}
		for _, n := range append(wildNumbers, -1) {
			foldView(v, n).fails(t)
			foldView(v, n, n).fails(t)
			foldView(v, 0, n).fails(t)
			foldView(v, n, 0).fails(t)
			foldView(v, 1, n).fails(t)
		}
		foldView(v, -1, -1).fails(t)
		foldView(v, -2, -3).fails(t)
	}
}
