package tests

import (
	"slices"
	"testing"

	"loop.example/s02542/impl"
)

// notFormed are views that are wrong in one way each.
func notFormed() []impl.View {
	views := []impl.View{
		{Shape: []int{2}}, {Strides: []int{1}}, {Shape: []int{0}}, {Shape: []int{1}}, view(0, []int{2, 3}, 1), view(0, []int{2}, 2, 1), view(0, []int{2, 3}, 6, 3, 1), view(0, nil, 0), view(0, []int{0, 4}, 1),
		view(0, []int{-1}, 1), view(0, []int{2, -1}, 1, 1), view(0, []int{-2, -3}, 3, 1), view(0, []int{0, -1}, 1, 1), view(0, ones(6), ones(6)...), view(0, []int{0, 0, 0, 0, 0, 0}, ones(6)...), view(0, ones(7), ones(7)...),
		view(10001, nil), view(-10001, nil), view(10001, []int{0}, 1), view(-10001, []int{3}, 5000),
		view(0, []int{2}, 10001), view(0, []int{2}, -10001), view(0, []int{1}, 10001), view(0, []int{0}, -10001), view(0, []int{2, 2}, 1, 10001), view(0, []int{2, 2}, 10001, 1), view(0, []int{1, 1, 1, 1, 1}, 0, 0, 0, 0, -10001),
	}
	for _, shape := range badShapes {
		views = append(views, view(0, shape, make([]int, len(shape))...))
	}
	for _, n := range wildNumbers {
		views = append(views, view(n, nil), view(n, []int{3}, 1), view(n, []int{0}, 1), view(0, []int{n}, 1), view(0, []int{n, 0}, 0, 0), view(0, []int{3}, n), view(0, []int{1}, n), view(0, []int{0}, n), view(5, []int{2, 2}, 1, n))
	}
	return views
}

func TestPlaces(t *testing.T) {
	wantPlaces(t, view(0, []int{2, 3}, 3, 1), 6, 0, 1, 2, 3, 4, 5)
	wantPlaces(t, view(4, []int{3}, -2), 5, 4, 2, 0)
	wantPlaces(t, view(1, []int{2, 2}, 0, 5), 10000, 1, 6, 1, 6)
	wantPlaces(t, view(7, []int{2, 3}, 0, 0), 8, 7, 7, 7, 7, 7, 7)
	wantPlaces(t, view(3, []int{2, 1, 3}, 10, -9999, -1), 14, 3, 2, 1, 13, 12, 11)
	wantPlaces(t, view(2, []int{1, 2, 1, 2, 1}, 1, 2, 3, -1, 5), 5, 2, 1, 4, 3)
	wantPlaces(t, view(0, []int{2, 2, 2, 2, 2}, 1, 2, 4, 8, 16), 32, 0, 16, 8, 24, 4, 20, 12, 28, 2, 18, 10, 26, 6, 22, 14, 30, 1, 17, 9, 25, 5, 21, 13, 29, 3, 19, 11, 27, 7, 23, 15, 31)
}

func TestPlacesOfRank0(t *testing.T) {
	for _, off := range []int{0, 1, 4999, 9998, 9999} {
		wantPlaces(t, view(off, nil), off+1, off)
		wantPlaces(t, view(off, []int{}), 10000, off)
		wantNoPlaces(t, view(off, nil), off)
		wantNoPlaces(t, view(-off-1, nil), 10000)
	}
	wantNoPlaces(t, impl.View{}, 0)
	wantPlaces(t, impl.View{}, 1, 0)
	wantNoPlaces(t, view(10000, nil), 10000)
	wantNoPlaces(t, view(-10000, nil), 10000)
}

// TestPlacesOfAxesOfOne has one element, wherever the strides would lead.
func TestPlacesOfAxesOfOne(t *testing.T) {
	for rank := range impl.MaxRank + 1 {
		for _, stride := range []int{0, 1, -1, 10000, -10000} {
			strides := slices.Repeat([]int{stride}, rank)
			wantPlaces(t, view(0, ones(rank), strides...), 1, 0)
			wantPlaces(t, view(9999, ones(rank), strides...), 10000, 9999)
			wantNoPlaces(t, view(9999, ones(rank), strides...), 9999)
			wantNoPlaces(t, view(-1, ones(rank), strides...), 10000)
		}
	}
}

// TestPlacesOfNoElements are none, and within any cells, whatever the offset and the strides are.
func TestPlacesOfNoElements(t *testing.T) {
	numbers := []int{0, 1, -1, 50, 9999, 10000, -10000}
	for _, shape := range [][]int{{0}, {0, 0}, {0, 10000}, {10000, 0}, {0, 1}, {1, 0}, {0, 100, 100}, {100, 0, 100}, {100, 100, 0}, {0, 10, 10, 10, 10}, {10, 10, 0, 10, 10}, {10, 10, 10, 10, 0}, {0, 0, 0, 0, 0}} {
		for _, off := range numbers {
			for _, stride := range numbers {
				v := view(off, shape, slices.Repeat([]int{stride}, len(shape))...)
				for _, cells := range []int{0, 1, 10000} {
					wantPlaces(t, v, cells)
				}
				wantNoPlaces(t, v, -1)
				wantNoPlaces(t, v, 10001)
			}
		}
	}
	wantNoPlaces(t, view(10001, []int{0}, 1), 10000)
	wantNoPlaces(t, view(-10001, []int{0}, 1), 10000)
	wantNoPlaces(t, view(0, []int{0}, 10001), 10000)
	wantNoPlaces(t, view(0, []int{0, 5}, 1, -10001), 10000)
}

// TestPlacesInCells has cells at both ends of what they may be, and beyond.
func TestPlacesInCells(t *testing.T) {
	long := whole(10000)
	wantPlaces(t, long, 10000, numbersFrom0(10000)...)
	wantNoPlaces(t, long, 9999)
	wantNoPlaces(t, long, 10001)
	for _, v := range []impl.View{whole(0), whole(), whole(2, 3)} {
		for _, cells := range append(wildNumbers, -1) {
			wantNoPlaces(t, v, cells)
		}
	}
	wantPlaces(t, whole(0), 0)
	wantNoPlaces(t, whole(1), 0)
	wantNoPlaces(t, whole(), 0)
}

// TestPlacesThatJustReach goes to the first and the last cell by one axis and by several together, and one beyond.
func TestPlacesThatJustReach(t *testing.T) {
	for _, v := range []impl.View{
		view(0, []int{5}, 3), view(0, []int{2}, 9999), view(0, []int{2}, 1), view(0, []int{2, 3}, 3, 1), view(0, []int{3, 4}, 7, 2), view(0, []int{2, 2}, 5000, 4999), view(0, []int{2, 3, 4}, 1, 1, 1), view(0, []int{2, 2, 2, 2, 2}, 1, 2, 4, 8, 16), view(0, []int{10, 10, 10, 5, 2}, 1000, 100, 10, 2, 1),
		view(0, []int{3, 1, 3}, 9, 10000, 1), view(0, []int{100, 100}, 1, 100), view(0, []int{3, 2}, 0, 4),
	} {
		count := slices.Max(allPlaces(v)) + 1
		wantPlaces(t, v, count, allPlaces(v)...)
		wantNoPlaces(t, v, count-1)
		// One further on there is one cell missing at the end, one further back the first place is none.
		wantNoPlaces(t, view(1, v.Shape, v.Strides...), count)
		wantNoPlaces(t, view(-1, v.Shape, v.Strides...), count)
		for axis := range v.Shape {
			back, _ := flipAgain(v, axis)
			wantPlaces(t, back, count, allPlaces(back)...)
			wantNoPlaces(t, back, count-1)
			wantNoPlaces(t, view(back.Off-1, back.Shape, back.Strides...), count)
			wantNoPlaces(t, view(back.Off+1, back.Shape, back.Strides...), count)
		}
	}
}

// TestPlacesOneSidePastTheOther would be within by their sum, as one axis leaves the cells and another comes back.
func TestPlacesOneSidePastTheOther(t *testing.T) {
	wantNoPlaces(t, view(0, []int{2, 2}, -3, 3), 10)
	wantPlaces(t, view(3, []int{2, 2}, -3, 3), 7, 3, 6, 0, 3)
	wantNoPlaces(t, view(3, []int{2, 2}, -3, 3), 6)
	wantNoPlaces(t, view(2, []int{2, 2}, -3, 3), 7)
	wantNoPlaces(t, view(9999, []int{2, 2}, 1, -1), 10000)
	wantPlaces(t, view(9998, []int{2, 2}, 1, -1), 10000, 9998, 9997, 9999, 9998)
	wantNoPlaces(t, view(0, []int{3, 2, 2}, 5, -1, -1), 10000)
}

func TestPlacesByTheGreatestStrides(t *testing.T) {
	wantPlaces(t, view(0, []int{1}, 10000), 1, 0)
	wantPlaces(t, view(5, []int{1, 2}, -10000, 1), 7, 5, 6)
	wantNoPlaces(t, view(0, []int{2}, 10000), 10000)
	wantNoPlaces(t, view(9999, []int{2}, -10000), 10000)
	wantNoPlaces(t, view(10000, []int{2}, -10000), 10000)
	wantPlaces(t, view(9999, []int{2}, -9999), 10000, 9999, 0)
	wantNoPlaces(t, view(-10000, []int{2}, 10000), 10000)
	wantNoPlaces(t, view(-10000, []int{10000}, 10000), 10000)
	wantNoPlaces(t, view(10000, []int{100, 100}, -10000, -10000), 10000)
	wantNoPlaces(t, view(10000, []int{10, 10, 10, 5, 2}, 10000, 10000, 10000, 10000, 10000), 10000)
	wantPlaces(t, view(0, []int{10000}, 0), 1, make([]int, 10000)...)
}

func TestPlacesOfShapesJustValid(t *testing.T) {
	for _, shape := range goodShapes {
		strides := make([]int, len(shape))
		count := len(indexesOf(shape))
		wantPlaces(t, view(0, shape, strides...), 1, make([]int, count)...)
		wantPlaces(t, whole(shape...), count, numbersFrom0(count)...)
	}
}

func TestPlacesOfWhatIsNotFormed(t *testing.T) {
	for _, v := range notFormed() {
		for _, cells := range []int{-1, 0, 1, 5000, 10000, 10001} {
			wantNoPlaces(t, v, cells)
		}
	}
}

// TestNothingOfWhatIsNotFormed has what would change a view that is formed.
func TestNothingOfWhatIsNotFormed(t *testing.T) {
	for _, v := range notFormed() {
		rank := len(v.Shape)
		order := numbersFrom0(rank)
		for axis := range order {
			order[axis]++
		}
		wantLine(t, v, 0, false)
		turnView(v, order...).fails(t)
		turnView(v).fails(t)
		cutView(v, make([]int, rank), v.Shape).fails(t)
		cutView(v, make([]int, rank), make([]int, rank)).fails(t)
		cutView(v, nil, nil).fails(t)
		foldView(v).fails(t)
		foldView(v, 0).fails(t)
		foldView(v, 1).fails(t)
		foldView(v, v.Shape...).fails(t)
		for _, axis := range []int{-1, 0, 1, rank - 1, rank} {
			flipView(v, axis).fails(t)
			pickView(v, axis, 0, 1, 0).fails(t)
			pickView(v, axis, 0, 0, 1).fails(t)
			pickView(v, axis, 0, 1, 1).fails(t)
		}
	}
}
