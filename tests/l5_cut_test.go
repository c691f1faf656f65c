package tests

import (
	"slices"
	"testing"

	"loop.example/s02542/impl"
)

func TestTakeOfVectors(t *testing.T) {
	for k, want := range map[int]string{0: "", 1: "a", 2: "ab", 3: "abc", 4: "abc ", 7: "abc    ", -1: "c", -2: "bc", -3: "abc", -4: " abc", -7: "    abc"} {
		take(scalar(k), letters("abc")).gives(t, letters(want))
		take(vector(k), letters("abc")).gives(t, letters(want))
	}
	take(scalar(5), upTo(3)).gives(t, vector(1, 2, 3, 0, 0))
	take(scalar(-5), upTo(3)).gives(t, vector(0, 0, 1, 2, 3))
	take(scalar(0), upTo(3)).gives(t, vector())
	take(scalar(10000), letters("abc")).gives(t, vectorOfLetters("abc", 9997, false))
	take(scalar(-10000), letters("abc")).gives(t, vectorOfLetters("abc", 9997, true))
}

// vectorOfLetters has blanks behind a text, or in front of it.
func vectorOfLetters(text string, blanks int, isFront bool) impl.Array {
	a, fill := letters(text), slices.Repeat([]int{' '}, blanks)
	if isFront {
		a.Data = slices.Concat(fill, a.Data)
	} else {
		a.Data = slices.Concat(a.Data, fill)
	}
	a.Shape = []int{len(a.Data)}
	return a
}

func TestDropOfVectors(t *testing.T) {
	for k, want := range map[int]string{0: "abc", 1: "bc", 2: "c", 3: "", 4: "", 7: "", 10001: "", top: "", -1: "ab", -2: "a", -3: "", -4: "", -7: "", -10001: "", -top: "", 1 << 32: "", -1 << 32: ""} {
		drop(scalar(k), letters("abc")).gives(t, letters(want))
		drop(vector(k), letters("abc")).gives(t, letters(want))
	}
	drop(scalar(9999), upTo(10000)).gives(t, vector(10000))
	drop(scalar(-9999), upTo(10000)).gives(t, vector(1))
	drop(scalar(0), upTo(10000)).gives(t, upTo(10000))
}

func TestTakeOnSeveralAxes(t *testing.T) {
	m := filled(false, 3, 3)
	take(vector(2, 2), m).gives(t, numbers([]int{2, 2}, 1, 2, 4, 5))
	take(vector(-2, 2), m).gives(t, numbers([]int{2, 2}, 4, 5, 7, 8))
	take(vector(2, -2), m).gives(t, numbers([]int{2, 2}, 2, 3, 5, 6))
	take(vector(-2, -2), m).gives(t, numbers([]int{2, 2}, 5, 6, 8, 9))
	take(vector(4, 2), m).gives(t, numbers([]int{4, 2}, 1, 2, 4, 5, 7, 8, 0, 0))
	take(vector(-4, 2), m).gives(t, numbers([]int{4, 2}, 0, 0, 1, 2, 4, 5, 7, 8))
	take(vector(2, 4), m).gives(t, numbers([]int{2, 4}, 1, 2, 3, 0, 4, 5, 6, 0))
	take(vector(2, -4), m).gives(t, numbers([]int{2, 4}, 0, 1, 2, 3, 0, 4, 5, 6))
	take(vector(-4, -4), m).gives(t, numbers([]int{4, 4}, 0, 0, 0, 0, 0, 1, 2, 3, 0, 4, 5, 6, 0, 7, 8, 9))
	take(vector(4, -1), m).gives(t, numbers([]int{4, 1}, 3, 6, 9, 0))
	take(vector(0, 5), m).gives(t, none(0, 5))
	take(vector(-2, 0), m).gives(t, none(2, 0))
	take(vector(3, -4), characters([]int{2, 2}, "abcd")).gives(t, characters([]int{3, 4}, "  ab  cd    "))
	take(vector(1, -1, 2), filled(false, 2, 2, 2)).gives(t, numbers([]int{1, 1, 2}, 3, 4))
	take(vector(-1, 1, 1, -1, 3), filled(false, 2, 1, 2, 2, 2)).gives(t, numbers([]int{1, 1, 1, 1, 3}, 11, 12, 0))
}

func TestDropOnSeveralAxes(t *testing.T) {
	m := filled(false, 3, 3)
	drop(vector(1, 1), m).gives(t, numbers([]int{2, 2}, 5, 6, 8, 9))
	drop(vector(-1, 1), m).gives(t, numbers([]int{2, 2}, 2, 3, 5, 6))
	drop(vector(1, -1), m).gives(t, numbers([]int{2, 2}, 4, 5, 7, 8))
	drop(vector(-1, -1), m).gives(t, numbers([]int{2, 2}, 1, 2, 4, 5))
	drop(vector(0, 2), m).gives(t, numbers([]int{3, 1}, 3, 6, 9))
	drop(vector(-2, 0), m).gives(t, numbers([]int{1, 3}, 1, 2, 3))
	drop(vector(0, 0), m).gives(t, m)
	drop(vector(3, 1), m).gives(t, none(0, 2))
	drop(vector(1, -9), m).gives(t, none(2, 0))
	drop(vector(top, -top), m).gives(t, none(0, 0))
	drop(vector(0, -1), characters([]int{2, 2}, "abcd")).gives(t, characters([]int{2, 1}, "ac"))
	drop(vector(1, -1, 0), filled(false, 2, 2, 2)).gives(t, numbers([]int{1, 1, 2}, 5, 6))
	drop(vector(1, 0, -1, 1, 1), filled(false, 2, 1, 2, 2, 2)).gives(t, numbers([]int{1, 1, 1, 1, 1}, 12))
}

// TestTakeByGreatNumbers has shapes that just are a valid array's, and those that are not.
func TestTakeByGreatNumbers(t *testing.T) {
	for _, shape := range slices.Concat(goodShapes, badShapes) {
		if len(shape) > impl.MaxRank {
			continue
		}
		for _, sign := range []int{1, -1} {
			list := slices.Clone(shape)
			for axis := range list {
				list[axis] *= sign
			}
			for _, a := range []impl.Array{full(true, 'q', make([]int, len(shape))...), full(false, 1, make([]int, len(shape))...), full(false, 0, ones(len(shape))...), full(true, ' ', slices.Repeat([]int{2}, len(shape))...), scalar(0), letter(' ')} {
				c := take(vector(list...), a)
				if len(a.Shape) == 0 && len(shape) == 0 {
					c.gives(t, a)
				} else if slices.ContainsFunc(badShapes, func(bad []int) bool { return slices.Equal(bad, shape) }) {
					c.fails(t, impl.ErrLimit)
				} else {
					c.gives(t, full(a.Char, fillAgain(a), shape...))
				}
			}
		}
	}
	for _, k := range []int{10001, -10001, 1 << 32, -1 << 32, 1<<32 + 1, top, -top} {
		take(scalar(k), vector(1)).fails(t, impl.ErrLimit)
		take(scalar(k), letter('a')).fails(t, impl.ErrLimit)
		take(vector(0, k), none(2, 0)).fails(t, impl.ErrLimit)
		take(vector(0, k), filled(false, 2, 2)).fails(t, impl.ErrLimit)
		take(vector(k, 0), none(0, 2)).fails(t, impl.ErrLimit)
	}
	take(vector(100, -100), filled(false, 1, 1)).gives(t, firstAtEndOfItsRow())
	take(vector(-101, 100), filled(false, 1, 1)).fails(t, impl.ErrLimit)
}

// firstAtEndOfItsRow is a table of noughts but for the last one of the first row.
func firstAtEndOfItsRow() impl.Array {
	a := full(false, 0, 100, 100)
	a.Data[99] = 1
	return a
}

// TestTakeAndDropOfScalars has lists of every length.
func TestTakeAndDropOfScalars(t *testing.T) {
	for _, a := range []impl.Array{scalar(7), letter('a')} {
		take(vector(), a).gives(t, a)
		drop(vector(), a).gives(t, a)
		for count := range impl.MaxRank + 1 {
			one := full(a.Char, a.Data[0], ones(count)...)
			take(full(false, 1, count), a).gives(t, one)
			take(full(false, -1, count), a).gives(t, one)
			drop(full(false, 0, count), a).gives(t, one)
			if count == 0 {
				continue
			}
			empty := full(a.Char, 0, make([]int, count)...)
			take(full(false, 0, count), a).gives(t, empty)
			for _, k := range []int{1, -1, 2, -2, 10001, top, -top} {
				drop(full(false, k, count), a).gives(t, empty)
			}
			two := full(a.Char, fillAgain(a), slices.Repeat([]int{2}, count)...)
			two.Data[0] = a.Data[0]
			take(full(false, 2, count), a).gives(t, two)
			slices.Reverse(two.Data)
			take(full(false, -2, count), a).gives(t, two)
			for place := range count {
				dropped := vector(replacedAt(make([]int, count), place, 1)...)
				drop(dropped, a).gives(t, full(a.Char, 0, replacedAt(ones(count), place, 0)...))
			}
		}
		for _, count := range []int{impl.MaxRank + 1, impl.MaxRank + 2, 100, 10000} {
			for _, k := range []int{0, 1, -1, 2, top, -top} {
				take(full(false, k, count), a).fails(t, impl.ErrLimit)
				drop(full(false, k, count), a).fails(t, impl.ErrLimit)
			}
		}
		// A scalar k is a list of one number.
		take(scalar(1), a).gives(t, full(a.Char, a.Data[0], 1))
		drop(scalar(0), a).gives(t, full(a.Char, a.Data[0], 1))
		drop(scalar(1), a).gives(t, full(a.Char, 0, 0))
	}
	take(scalar(3), letter('a')).gives(t, letters("a  "))
	take(scalar(-3), scalar(7)).gives(t, vector(0, 0, 7))
	take(vector(2, -2), scalar(7)).gives(t, numbers([]int{2, 2}, 0, 7, 0, 0))
	take(vector(-2, 2), letter('a')).gives(t, characters([]int{2, 2}, "  a "))
	// One element of a higher rank is no scalar.
	take(vector(1, 1), vector(7)).fails(t, impl.ErrLength)
	drop(vector(0, 0), vector(7)).fails(t, impl.ErrLength)
	take(vector(), vector(7)).fails(t, impl.ErrLength)
	drop(vector(), vector(7)).fails(t, impl.ErrLength)
}

// TestTakeAndDropWithoutElements takes the fill alone, and leaves nothing out of nothing.
func TestTakeAndDropWithoutElements(t *testing.T) {
	for _, shape := range shapesUpTo(2) {
		if !slices.Contains(shape, 0) {
			continue
		}
		for _, a := range both(shape...) {
			for _, k := range []int{1, -1, 2, -2, 3} {
				size := k
				if size < 0 {
					size = -size
				}
				take(full(false, k, len(shape)), a).gives(t, full(a.Char, fillAgain(a), slices.Repeat([]int{size}, len(shape))...))
				left := slices.Clone(shape)
				for axis := range left {
					left[axis] = max(left[axis]-size, 0)
				}
				drop(full(false, k, len(shape)), a).gives(t, full(a.Char, 0, left...))
			}
			take(full(false, 0, len(shape)), a).gives(t, full(a.Char, 0, make([]int, len(shape))...))
			take(vector(shape...), a).gives(t, a)
			drop(full(false, 0, len(shape)), a).gives(t, a)
			drop(full(false, -top, len(shape)), a).gives(t, full(a.Char, 0, make([]int, len(shape))...))
		}
	}
	drop(vector(5000, 0), none(10000, 0)).gives(t, none(5000, 0))
}

// TestTakeAndDropWrongLengths has lists that do not have as many numbers as there are axes.
func TestTakeAndDropWrongLengths(t *testing.T) {
	for rank := 1; rank <= impl.MaxRank; rank++ {
		for _, length := range []int{0, 1, 2} {
			for _, a := range both(slices.Repeat([]int{length}, rank)...) {
				for count := range impl.MaxRank + 3 {
					for _, k := range []int{0, 1, -1, 20000, top, -top} {
						if count == rank {
							continue
						}
						take(full(false, k, count), a).fails(t, impl.ErrLength)
						drop(full(false, k, count), a).fails(t, impl.ErrLength)
					}
				}
				take(upTo(10000), a).fails(t, impl.ErrLength)
				drop(upTo(10000), a).fails(t, impl.ErrLength)
				if rank > 1 {
					take(scalar(1), a).fails(t, impl.ErrLength)
					drop(scalar(1), a).fails(t, impl.ErrLength)
				}
			}
		}
	}
}

// TestDropHasNoLimit leaves out of the greatest arrays what Take could not take.
func TestDropHasNoLimit(t *testing.T) {
	for _, shape := range goodShapes {
		if len(shape) == 0 {
			continue
		}
		a := full(false, 3, shape...)
		drop(full(false, 0, len(shape)), a).gives(t, a)
		for axis, length := range shape {
			for _, k := range []int{1, -1, 10001, -10001, top, -top} {
				size := k
				if size < 0 {
					size = -size
				}
				drop(vector(replacedAt(make([]int, len(shape)), axis, k)...), a).gives(t, full(false, 3, replacedAt(shape, axis, max(length-size, 0))...))
			}
		}
	}
}
