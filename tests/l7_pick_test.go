package tests

import "testing"

func TestPickView(t *testing.T) {
	v := view(1, []int{2, 5}, 10, 2)
	pickView(v, 1, 0, 1, 5).gives(t, v)
	pickView(v, 1, 4, -1, 5).gives(t, view(9, []int{2, 5}, 10, -2))
	pickView(v, 1, 1, 2, 2).gives(t, view(3, []int{2, 2}, 10, 4))
	pickView(v, 1, 4, -2, 3).gives(t, view(9, []int{2, 3}, 10, -4))
	pickView(v, 1, 3, 0, 7).gives(t, view(7, []int{2, 7}, 10, 0))
	pickView(v, 0, 1, 0, 3).gives(t, view(11, []int{3, 5}, 0, 2))
	pickView(v, 0, 1, -1, 2).gives(t, view(11, []int{2, 5}, -10, 2))
	pickView(view(9, []int{4}, -3), 0, 1, 2, 2).gives(t, view(6, []int{2}, -6))
	pickView(view(0, []int{2, 2, 2, 2, 2}, 1, 2, 4, 8, 16), 4, 1, -1, 2).gives(t, view(16, []int{2, 2, 2, 2, 2}, 1, 2, 4, 8, -16))
}

// TestPickViewOfNone looks at no first element, and changes the stride all the same.
func TestPickViewOfNone(t *testing.T) {
	for _, from := range append(wildNumbers, -1, 0, 1, 2, 3, 99) {
		pickView(view(7, []int{2, 3}, 3, 1), 0, from, 5, 0).gives(t, view(7, []int{0, 3}, 15, 1))
		pickView(view(7, []int{2, 3}, 3, 1), 1, from, -10000, 0).gives(t, view(7, []int{2, 0}, 3, -10000))
		pickView(view(7, []int{0, 3}, 3, 1), 0, from, 0, 0).gives(t, view(7, []int{0, 3}, 0, 1))
		pickView(view(-10000, []int{1}, 5000), 0, from, 2, 0).gives(t, view(-10000, []int{0}, 10000))
		// The stride would not be formed.
		pickView(view(7, []int{2, 3}, 5000, 1), 0, from, 3, 0).fails(t)
		pickView(view(7, []int{0}, 5001), 0, from, 2, 0).fails(t)
		pickView(view(7, []int{0}, -5001), 0, from, 2, 0).fails(t)
		// Nor is the step looked at less.
		pickView(view(7, []int{2}, 0), 0, from, 10001, 0).fails(t)
		pickView(view(7, []int{2}, 0), 0, from, -10001, 0).fails(t)
	}
}

// TestPickViewOfOne makes no step, and yet the stride becomes as many times itself.
func TestPickViewOfOne(t *testing.T) {
	for from := range 3 {
		for _, step := range []int{0, 1, -1, 2, -2, 3, 1000, -1000} {
			pickView(view(2, []int{3}, 10), 0, from, step, 1).gives(t, view(2+10*from, []int{1}, 10*step))
		}
		pickView(view(2, []int{3}, 10), 0, from, 1001, 1).fails(t)
		pickView(view(2, []int{3}, 10), 0, from, -1001, 1).fails(t)
		pickView(view(2, []int{3}, 0), 0, from, 10000, 1).gives(t, view(2, []int{1}, 0))
		pickView(view(2, []int{3}, 1), 0, from, -10000, 1).gives(t, view(2+from, []int{1}, -10000))
		pickView(view(2, []int{3}, 0), 0, from, 10001, 1).fails(t)
	}
	pickView(view(2, []int{3}, 10), 0, 3, 0, 1).fails(t)
	pickView(view(2, []int{3}, 10), 0, -1, 1, 1).fails(t)
	pickView(view(2, []int{0}, 10), 0, 0, 1, 1).fails(t)
}

// TestPickViewOfMany has as many elements as an axis may have, and one more.
func TestPickViewOfMany(t *testing.T) {
	pickView(view(3, []int{2}, 5), 0, 1, 0, 10000).gives(t, view(8, []int{10000}, 0))
	pickView(view(3, []int{2}, 5), 0, 1, 0, 10001).fails(t)
	pickView(whole(10000), 0, 0, 1, 10000).gives(t, whole(10000))
	pickView(whole(10000), 0, 9999, -1, 10000).gives(t, view(9999, []int{10000}, -1))
	pickView(whole(10000), 0, 0, 1, 10001).fails(t)
	pickView(whole(10000), 0, 1, 1, 10000).fails(t)
	pickView(whole(10000), 0, 9998, -1, 10000).fails(t)
	pickView(whole(10000), 0, 0, 10000, 10000).fails(t)
	pickView(whole(10000), 0, 9999, -10000, 10000).fails(t)
	// What is picked must have a shape that an array may have, also without elements.
	pickView(whole(2, 3), 1, 0, 0, 5000).gives(t, view(0, []int{2, 5000}, 3, 0))
	pickView(whole(2, 3), 1, 0, 0, 5001).fails(t)
	pickView(whole(2, 3), 0, 0, 0, 3333).gives(t, view(0, []int{3333, 3}, 0, 1))
	pickView(whole(2, 3), 0, 0, 0, 3334).fails(t)
	pickView(whole(2, 0, 100), 0, 1, 0, 100).gives(t, view(100, []int{100, 0, 100}, 0, 100, 1))
	pickView(whole(2, 0, 100), 0, 1, 0, 101).fails(t)
}

// TestPickViewAtTheEnds goes from each number on in each step, so that the first and the last element are just there, and just not.
func TestPickViewAtTheEnds(t *testing.T) {
	for length := range 6 {
		v := view(50, []int{2, length}, 100, 3)
		for from := -2; from <= length+1; from++ {
			for step := -3; step <= 3; step++ {
				for n := 1; n <= length+2; n++ {
					last := from + (n-1)*step
					c := pickView(v, 1, from, step, n)
					if min(from, last) >= 0 && max(from, last) < length {
						c.gives(t, view(50+3*from, []int{2, n}, 100, 3*step))
					} else {
						c.fails(t)
					}
				}
			}
		}
	}
}

// TestPickViewJustFormed has strides and offsets at the ends of what they may be, and one beyond.
func TestPickViewJustFormed(t *testing.T) {
	pickView(view(0, []int{3}, 5000), 0, 0, 2, 2).gives(t, view(0, []int{2}, 10000))
	pickView(view(0, []int{3}, 5001), 0, 0, 2, 2).fails(t)
	pickView(view(0, []int{3}, -5000), 0, 0, 2, 2).gives(t, view(0, []int{2}, -10000))
	pickView(view(0, []int{3}, -5001), 0, 0, 2, 2).fails(t)
	pickView(view(0, []int{3}, -5001), 0, 1, -1, 2).gives(t, view(-5001, []int{2}, 5001))
	pickView(view(0, []int{3}, 5000), 0, 2, 1, 1).gives(t, view(10000, []int{1}, 5000))
	pickView(view(1, []int{3}, 5000), 0, 2, 1, 1).fails(t)
	pickView(view(0, []int{3}, -5000), 0, 2, 1, 1).gives(t, view(-10000, []int{1}, -5000))
	pickView(view(-1, []int{3}, -5000), 0, 2, 1, 1).fails(t)
	pickView(view(0, []int{2}, 10000), 0, 0, 10000, 1).fails(t)
	pickView(view(0, []int{10000}, 10000), 0, 9999, 1, 1).fails(t)
	// The offset moves though there are no elements, as long as n is above 0.
	pickView(view(9999, []int{0, 3}, 0, 1), 1, 1, 1, 2).gives(t, view(10000, []int{0, 2}, 0, 1))
	pickView(view(9999, []int{0, 3}, 0, 1), 1, 2, -1, 2).fails(t)
}

func TestPickViewOfWrongNumbers(t *testing.T) {
	v := whole(2, 3)
	for _, n := range append(wildNumbers, -1) {
		pickView(v, n, 0, 1, 1).fails(t)
		pickView(v, n, 0, 1, 0).fails(t)
		pickView(v, 1, n, 0, 1).fails(t)
		pickView(v, 1, n, 1, 1).fails(t)
		pickView(v, 1, n, -1, 2).fails(t)
		pickView(v, 1, n, 10000, 10000).fails(t)
		pickView(v, 1, n, -10000, 10000).fails(t)
		pickView(v, 1, 0, 0, n).fails(t)
		pickView(v, 1, 0, 1, n).fails(t)
		pickView(view(0, []int{0}, 0), 0, 0, 0, n).fails(t)
		pickView(v, 1, n, n, n).fails(t)
	}
	for _, step := range wildNumbers {
		pickView(view(0, []int{3}, 0), 0, 0, step, 1).fails(t)
		pickView(view(0, []int{3}, 0), 0, 0, step, 0).fails(t)
		pickView(view(0, []int{3}, 1), 0, 2, step, 2).fails(t)
		pickView(view(0, []int{10000}, 1), 0, 5000, step, 10000).fails(t)
	}
	for _, axis := range []int{-2, -1, 2, 3, 4, 5, 6} {
		pickView(v, axis, 0, 1, 1).fails(t)
		pickView(v, axis, 0, 1, 0).fails(t)
	}
	pickView(whole(), 0, 0, 1, 1).fails(t)
	pickView(whole(), 0, 0, 1, 0).fails(t)
	pickView(whole(), -1, 0, 1, 0).fails(t)
}
