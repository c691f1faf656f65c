package tests

import (
	"slices"
	"testing"

	"loop.example/s02542/impl"
)

func TestWholeView(t *testing.T) {
	wholeView().gives(t, view(0, nil))
	wholeView(7).gives(t, view(0, []int{7}, 1))
	wholeView(2, 3).gives(t, view(0, []int{2, 3}, 3, 1))
	wholeView(2, 1, 3).gives(t, view(0, []int{2, 1, 3}, 3, 3, 1))
	wholeView(2, 3, 4).gives(t, view(0, []int{2, 3, 4}, 12, 4, 1))
	wholeView(10, 10, 10, 5, 2).gives(t, view(0, []int{10, 10, 10, 5, 2}, 1000, 100, 10, 2, 1))
	wholeView(1, 1, 1, 1, 1).gives(t, view(0, ones(5), 1, 1, 1, 1, 1))
	wholeView(10000).gives(t, view(0, []int{10000}, 1))
	wholeView(1, 10000).gives(t, view(0, []int{1, 10000}, 10000, 1))
	wholeView(10000, 1).gives(t, view(0, []int{10000, 1}, 1, 1))
}

func TestWholeViewCountsAxesOfNoneAsOne(t *testing.T) {
	wholeView(0).gives(t, view(0, []int{0}, 1))
	wholeView(0, 0).gives(t, view(0, []int{0, 0}, 1, 1))
	wholeView(0, 4).gives(t, view(0, []int{0, 4}, 4, 1))
	wholeView(4, 0).gives(t, view(0, []int{4, 0}, 1, 1))
	wholeView(2, 0, 3).gives(t, view(0, []int{2, 0, 3}, 3, 3, 1))
	wholeView(2, 3, 0).gives(t, view(0, []int{2, 3, 0}, 3, 1, 1))
	wholeView(0, 10000).gives(t, view(0, []int{0, 10000}, 10000, 1))
	wholeView(10000, 0).gives(t, view(0, []int{10000, 0}, 1, 1))
	wholeView(0, 10, 0, 10, 0).gives(t, view(0, []int{0, 10, 0, 10, 0}, 100, 10, 10, 1, 1))
	wholeView(0, 10, 10, 10, 10).gives(t, view(0, []int{0, 10, 10, 10, 10}, 10000, 1000, 100, 10, 1))
}

func TestWholeViewOfNoShape(t *testing.T) {
	for _, shape := range badShapes {
		wholeView(shape...).fails(t)
	}
	for _, n := range append(wildNumbers, -1) {
		wholeView(n).fails(t)
		wholeView(n, 0).fails(t)
		wholeView(0, n).fails(t)
		wholeView(1, 1, 1, 1, n).fails(t)
	}
	wholeView(-1, -1).fails(t)
}

func TestFlipView(t *testing.T) {
	v := view(1, []int{2, 3}, 10, 2)
	flipView(v, 0).gives(t, view(11, []int{2, 3}, -10, 2))
	flipView(v, 1).gives(t, view(5, []int{2, 3}, 10, -2))
	flipView(view(5, []int{2, 3}, 10, -2), 1).gives(t, v)
	flipView(view(3, []int{4}, 0), 0).gives(t, view(3, []int{4}, 0))
	flipView(view(0, []int{1, 1, 1, 1, 2}, 1, 1, 1, 1, 7), 4).gives(t, view(7, []int{1, 1, 1, 1, 2}, 1, 1, 1, 1, -7))
	flipView(whole(10000), 0).gives(t, view(9999, []int{10000}, -1))
}

// TestFlipViewOfShortAxes gives the view itself, the stride staying as it is.
func TestFlipViewOfShortAxes(t *testing.T) {
	for _, v := range []impl.View{view(5, []int{1}, 3), view(5, []int{0}, 3), view(-10000, []int{1}, -10000), view(10000, []int{0}, 10000), view(0, []int{1}, 0)} {
		flipView(v, 0).gives(t, v)
	}
	flipView(view(5, []int{3, 1, 0}, 4, 5, 6), 1).gives(t, view(5, []int{3, 1, 0}, 4, 5, 6))
	flipView(view(5, []int{3, 1, 0}, 4, 5, 6), 2).gives(t, view(5, []int{3, 1, 0}, 4, 5, 6))
}

// TestFlipViewWithoutElements moves the offset all the same where the axis has more than one.
func TestFlipViewWithoutElements(t *testing.T) {
	flipView(view(5, []int{3, 0}, 4, 6), 0).gives(t, view(13, []int{3, 0}, -4, 6))
	flipView(view(5, []int{0, 3}, 4, -6), 1).gives(t, view(-7, []int{0, 3}, 4, 6))
	flipView(view(0, []int{0, 2}, 0, 10000), 1).gives(t, view(10000, []int{0, 2}, 0, -10000))
	flipView(view(1, []int{0, 2}, 0, 10000), 1).fails(t)
	flipView(view(10000, []int{0, 3}, 0, -10000), 1).gives(t, view(-10000, []int{0, 3}, 0, 10000))
	flipView(view(9999, []int{0, 3}, 0, -10000), 1).fails(t)
	flipView(view(0, []int{10000, 0}, 10000, 0), 0).fails(t)
}

// TestFlipViewJustFormed moves the offset to the ends of what it may be, and one beyond.
func TestFlipViewJustFormed(t *testing.T) {
	flipView(view(0, []int{2}, 10000), 0).gives(t, view(10000, []int{2}, -10000))
	flipView(view(1, []int{2}, 10000), 0).fails(t)
	flipView(view(0, []int{2}, -10000), 0).gives(t, view(-10000, []int{2}, 10000))
	flipView(view(-1, []int{2}, -10000), 0).fails(t)
	flipView(view(-10000, []int{5}, 5000), 0).gives(t, view(10000, []int{5}, -5000))
	flipView(view(-9999, []int{5}, 5000), 0).fails(t)
	flipView(view(10000, []int{10000}, -2), 0).gives(t, view(-9998, []int{10000}, 2))
	flipView(view(9998, []int{10000}, -2), 0).gives(t, view(-10000, []int{10000}, 2))
	flipView(view(9997, []int{10000}, -2), 0).fails(t)
	flipView(view(10000, []int{10000}, 10000), 0).fails(t)
	flipView(view(-10000, []int{10000}, -10000), 0).fails(t)
}

// TestNoSuchAxis has axes below 0 and from the rank on.
func TestNoSuchAxis(t *testing.T) {
	for rank := range impl.MaxRank + 1 {
		for _, length := range []int{0, 1, 2} {
			v := whole(slices.Repeat([]int{length}, rank)...)
			for _, axis := range append(wildNumbers, -2, -1, rank, rank+1, impl.MaxRank, impl.MaxRank+1) {
				flipView(v, axis).fails(t)
				pickView(v, axis, 0, 1, 0).fails(t)
				pickView(v, axis, 0, 0, 1).fails(t)
			}
		}
	}
}

func TestTurnView(t *testing.T) {
	turnView(view(5, nil)).gives(t, view(5, nil))
	turnView(view(5, []int{3}, 2), 1).gives(t, view(5, []int{3}, 2))
	turnView(view(2, []int{2, 3}, 3, -1), 2, 1).gives(t, view(2, []int{3, 2}, -1, 3))
	turnView(view(2, []int{2, 3}, 3, -1), 1, 2).gives(t, view(2, []int{2, 3}, 3, -1))
	// Axis 0 becomes axis number 2, axis 1 number 3, axis 2 number 1.
	turnView(view(-10000, []int{2, 3, 4}, 10, 20, 30), 2, 3, 1).gives(t, view(-10000, []int{4, 2, 3}, 30, 10, 20))
	turnView(view(0, []int{0, 3, 1}, 10, 20, 10000), 3, 1, 2).gives(t, view(0, []int{3, 1, 0}, 20, 10000, 10))
	turnView(view(0, []int{1, 2, 3, 4, 5}, 6, 7, 8, 9, 10), 5, 4, 1, 3, 2).gives(t, view(0, []int{3, 5, 4, 2, 1}, 8, 10, 9, 7, 6))
}

func TestTurnViewByNoOrder(t *testing.T) {
	for _, p := range [][]int{{}, {1}, {2}, {1, 1}, {2, 2}, {0, 1}, {1, 0}, {0, 0}, {1, 3}, {3, 1}, {2, 3}, {-1, 1}, {-1, -2}, {1, 2, 3}, {2, 1, 1}, {2, 1, 0}, {1, 2, 3, 4, 5, 6}, slices.Repeat([]int{1}, 10000)} {
		turnView(whole(2, 3), p...).fails(t)
		turnView(view(0, []int{0, 3}, 1, 1), p...).fails(t)
	}
	for _, n := range wildNumbers {
		turnView(whole(2, 3), n, 1).fails(t)
		turnView(whole(2, 3), 2, n).fails(t)
		turnView(whole(2), n).fails(t)
	}
	for _, p := range [][]int{{1}, {0}, {2}, {1, 2}} {
		turnView(whole(), p...).fails(t)
	}
	turnView(whole(2)).fails(t)
	turnView(whole(2), 0).fails(t)
	turnView(whole(2), 2).fails(t)
	turnView(whole(1, 2, 3, 4, 5), 1, 2, 3, 4, 4).fails(t)
	turnView(whole(1, 2, 3, 4, 5), 1, 2, 3, 4).fails(t)
	turnView(whole(1, 2, 3, 4, 5), 0, 1, 2, 3, 4).fails(t)
	turnView(whole(1, 2, 3, 4, 5), 2, 3, 4, 5, 6).fails(t)
}

func TestCutView(t *testing.T) {
	cutView(view(5, nil), nil, nil).gives(t, view(5, nil))
	cutView(whole(2, 3), []int{1, 1}, []int{1, 2}).gives(t, view(4, []int{1, 2}, 3, 1))
	cutView(whole(2, 3), []int{0, 0}, []int{2, 3}).gives(t, whole(2, 3))
	cutView(view(9, []int{5}, -2), []int{2}, []int{3}).gives(t, view(5, []int{3}, -2))
	cutView(view(9, []int{5, 4}, -2, 0), []int{1, 3}, []int{4, 1}).gives(t, view(7, []int{4, 1}, -2, 0))
	cutView(view(0, []int{2, 2, 2, 2, 2}, 1, 2, 4, 8, 16), []int{1, 0, 1, 0, 1}, []int{1, 2, 1, 2, 1}).gives(t, view(21, []int{1, 2, 1, 2, 1}, 1, 2, 4, 8, 16))
}

// TestCutViewAtTheEnds goes from each element on, to each length that is there, and one beyond on all sides.
func TestCutViewAtTheEnds(t *testing.T) {
	for n := range 5 {
		v := view(100, []int{n, 2}, 7, 1)
		for from := -1; from <= n+1; from++ {
			for length := -1; length <= n+1; length++ {
				c := cutView(v, []int{from, 1}, []int{length, 1})
				if from >= 0 && from <= n && length >= 0 && from+length <= n {
					c.gives(t, view(101+7*from, []int{length, 1}, 7, 1))
				} else {
					c.fails(t)
				}
			}
		}
	}
}

// TestCutViewWithoutElements moves the offset all the same.
func TestCutViewWithoutElements(t *testing.T) {
	cutView(view(5, []int{3, 0}, 4, 6), []int{3, 0}, []int{0, 0}).gives(t, view(17, []int{0, 0}, 4, 6))
	cutView(view(5, []int{3, 0}, 4, 6), []int{2, 0}, []int{1, 0}).gives(t, view(13, []int{1, 0}, 4, 6))
	cutView(view(5, []int{3, 4}, 4, 6), []int{3, 4}, []int{0, 0}).gives(t, view(41, []int{0, 0}, 4, 6))
	cutView(view(5, []int{3, 4}, 4, 6), []int{1, 4}, []int{2, 0}).gives(t, view(33, []int{2, 0}, 4, 6))
	cutView(view(5, []int{3, 4}, 4, 6), []int{0, 0}, []int{0, 4}).gives(t, view(5, []int{0, 4}, 4, 6))
	cutView(view(5, []int{0}, -9), []int{0}, []int{0}).gives(t, view(5, []int{0}, -9))
	cutView(view(5, []int{0}, -9), []int{1}, []int{0}).fails(t)
	cutView(view(5, []int{0}, -9), []int{0}, []int{1}).fails(t)
	cutView(view(0, []int{10000}, 1), []int{10000}, []int{0}).gives(t, view(10000, []int{0}, 1))
	cutView(view(1, []int{10000}, 1), []int{10000}, []int{0}).fails(t)
	cutView(view(-10000, []int{10000, 0}, 2, 0), []int{10000, 0}, []int{0, 0}).gives(t, view(10000, []int{0, 0}, 2, 0))
	cutView(view(-9999, []int{10000, 0}, 2, 0), []int{10000, 0}, []int{0, 0}).fails(t)
}

// TestCutViewJustFormed moves the offset, by one axis and by several together, to the ends of what it may be, and one beyond.
func TestCutViewJustFormed(t *testing.T) {
	cutView(view(0, []int{2}, 10000), []int{1}, []int{1}).gives(t, view(10000, []int{1}, 10000))
	cutView(view(1, []int{2}, 10000), []int{1}, []int{1}).fails(t)
	cutView(view(0, []int{2}, -10000), []int{1}, []int{1}).gives(t, view(-10000, []int{1}, -10000))
	cutView(view(-1, []int{2}, -10000), []int{1}, []int{1}).fails(t)
	cutView(view(0, []int{3, 3}, 3000, 2000), []int{2, 2}, []int{1, 1}).gives(t, view(10000, []int{1, 1}, 3000, 2000))
	cutView(view(1, []int{3, 3}, 3000, 2000), []int{2, 2}, []int{1, 1}).fails(t)
	cutView(view(-2, []int{3, 3}, -3000, -1999), []int{2, 2}, []int{1, 1}).gives(t, view(-10000, []int{1, 1}, -3000, -1999))
	cutView(view(-3, []int{3, 3}, -3000, -1999), []int{2, 2}, []int{1, 1}).fails(t)
	// One axis leads out, and another one back.
	cutView(view(10000, []int{2, 2}, 10000, -10000), []int{1, 1}, []int{1, 1}).gives(t, view(10000, []int{1, 1}, 10000, -10000))
	cutView(view(10000, []int{100, 100}, 10000, 10000), []int{99, 99}, []int{1, 1}).fails(t)
}

func TestCutViewByWrongLists(t *testing.T) {
	v := whole(4, 5)
	for _, list := range [][]int{{}, {1}, {1, 1, 1}, {-1, 1}, {1, -1}, {5, 1}, {1, 6}, {1, 1, 0}, {0, 0, 0, 0, 0, 0}} {
		cutView(v, list, []int{0, 0}).fails(t)
		cutView(v, []int{0, 0}, list).fails(t)
		cutView(v, list, list).fails(t)
	}
	for _, n := range append(wildNumbers, -1) {
		cutView(v, []int{n, 0}, []int{0, 0}).fails(t)
		cutView(v, []int{0, n}, []int{0, 0}).fails(t)
		cutView(v, []int{0, 0}, []int{n, 0}).fails(t)
		cutView(v, []int{0, 4}, []int{0, n}).fails(t)
		// Their difference is small, and their sum would wrap round.
		cutView(v, []int{n, 0}, []int{n, 0}).fails(t)
		cutView(v, []int{n, 0}, []int{-n, 0}).fails(t)
	}
	cutView(whole(), []int{0}, nil).fails(t)
	cutView(whole(), nil, []int{0}).fails(t)
	cutView(whole(), []int{0}, []int{0}).fails(t)
}
