package tests

import (
	"slices"
	"testing"

	"loop.example/s02542/impl"
)

func TestRotate(t *testing.T) {
	for k, want := range map[int]string{0: "abcde", 1: "bcdea", 2: "cdeab", 4: "eabcd", 5: "abcde", 6: "bcdea", -1: "eabcd", -2: "deabc", -4: "bcdea", -5: "abcde", -6: "eabcd", 13: "deabc", -13: "cdeab"} {
		for _, first := range bothEnds {
			rotate(scalar(k), letters("abcde"), first).gives(t, letters(want))
		}
		rotate(scalar(k), characters([]int{1, 5}, "abcde"), false).gives(t, characters([]int{1, 5}, want))
		rotate(scalar(k), characters([]int{1, 5}, "abcde"), true).gives(t, characters([]int{1, 5}, "abcde"))
		rotate(scalar(k), characters([]int{5, 1}, "abcde"), true).gives(t, characters([]int{5, 1}, want))
		rotate(scalar(k), characters([]int{5, 1}, "abcde"), false).gives(t, characters([]int{5, 1}, "abcde"))
	}
	rotate(scalar(1), filled(false, 2, 3), false).gives(t, numbers([]int{2, 3}, 2, 3, 1, 5, 6, 4))
	rotate(scalar(1), filled(false, 3, 2), true).gives(t, numbers([]int{3, 2}, 3, 4, 5, 6, 1, 2))
	rotate(scalar(-1), filled(false, 2, 3), false).gives(t, numbers([]int{2, 3}, 3, 1, 2, 6, 4, 5))
	rotate(scalar(-1), filled(false, 3, 2), true).gives(t, numbers([]int{3, 2}, 5, 6, 1, 2, 3, 4))
	rotate(scalar(1), filled(false, 2, 2, 2), false).gives(t, numbers([]int{2, 2, 2}, 2, 1, 4, 3, 6, 5, 8, 7))
	rotate(scalar(1), filled(false, 2, 2, 2), true).gives(t, numbers([]int{2, 2, 2}, 5, 6, 7, 8, 1, 2, 3, 4))
}

// TestRotateByGreatNumbers has those whose rest is told by hand, of either sign.
func TestRotateByGreatNumbers(t *testing.T) {
	for _, c := range []struct{ length, k, rest int }{
		{3, top, 1}, {3, -top, 2}, {3, top - 1, 0}, {3, 1 - top, 0}, {7, top, 6}, {7, -top, 1}, {2, top, 0}, {2, top - 1, 1}, {2, 1 - top, 1}, {5, 1 << 32, 1}, {5, -1 << 32, 4}, {5, 1 << 31, 3}, {10000, top, 0}, {10000, 1 - top, 1}, {9999, top, 1000}, {9999, -top, 8999},
	} {
		was := upTo(c.length)
		want := vector(slices.Concat(was.Data[c.rest:], was.Data[:c.rest])...)
		for _, first := range bothEnds {
			rotate(scalar(c.k), was, first).gives(t, want)
		}
	}
}

// TestRotateStays has scalars and axes of none and of one.
func TestRotateStays(t *testing.T) {
	for _, k := range []int{0, 1, -1, 2, -3, top, -top} {
		for _, shape := range shapesUpTo(2) {
			for _, a := range both(shape...) {
				for _, first := range bothEnds {
					if axisLength(shape, first) < 2 || len(a.Data) == 0 {
						rotate(scalar(k), a, first).gives(t, a)
					}
				}
			}
		}
		rotate(scalar(k), scalar(7), false).gives(t, scalar(7))
		rotate(scalar(k), letter('a'), true).gives(t, letter('a'))
		rotate(scalar(k), none(10000, 0), true).gives(t, none(10000, 0))
		rotate(scalar(k), noLetter(0, 10000), false).gives(t, noLetter(0, 10000))
	}
	for _, shape := range shapesUpTo(2) {
		for _, first := range bothEnds {
			for _, k := range []int{0, 2, -2, -1000, top} {
				rotate(scalar(k), filled(false, shape...), first).gives(t, filled(false, shape...))
			}
		}
	}
}

func TestRotateByOneElementOfEveryRank(t *testing.T) {
	for rank := range impl.MaxRank + 1 {
		for _, k := range []int{0, 1, -1, 4, top} {
			for _, a := range []impl.Array{scalar(5), upTo(3), filled(true, 2, 3), filled(false, 2, 1, 1, 1, 3), none(2, 0)} {
				for _, first := range bothEnds {
					rotate(full(false, k, ones(rank)...), a, first).answersLike(t, rotate(scalar(k), a, first))
				}
			}
		}
		rotate(full(false, 1, ones(rank)...), letters("abc"), false).gives(t, letters("bca"))
	}
}

func TestRotateCodes(t *testing.T) {
	for _, a := range []impl.Array{scalar(7), letter('a'), vector(), vector(1, 2), letters("abc"), filled(false, 2, 2), none(0, 2), filled(true, 1, 2, 1, 2, 1)} {
		for _, first := range bothEnds {
			for _, shape := range shapesUpTo(2) {
				if k := full(false, 1, shape...); len(k.Data) != 1 {
					rotate(k, a, first).fails(t, impl.ErrLength)
					// ErrDomain comes behind.
					rotate(full(true, 1, shape...), a, first).fails(t, impl.ErrLength)
				} else {
					rotate(full(true, 1, shape...), a, first).fails(t, impl.ErrDomain)
				}
			}
			rotate(vector(1, 2), a, first).fails(t, impl.ErrLength)
			rotate(vector(), a, first).fails(t, impl.ErrLength)
			rotate(letters("ab"), a, first).fails(t, impl.ErrLength)
			rotate(letters(""), a, first).fails(t, impl.ErrLength)
			rotate(letter('a'), a, first).fails(t, impl.ErrDomain)
			rotate(letters("a"), a, first).fails(t, impl.ErrDomain)
		}
	}
}

func TestTranspose(t *testing.T) {
	transpose(vector(2, 1), filled(false, 2, 3)).gives(t, numbers([]int{3, 2}, 1, 4, 2, 5, 3, 6))
	transpose(vector(1, 2), filled(false, 2, 3)).gives(t, filled(false, 2, 3))
	transpose(vector(2, 1), characters([]int{1, 3}, "abc")).gives(t, characters([]int{3, 1}, "abc"))
	// The first axis becomes the second, the second the third, and the third the first: not the other way round.
	transpose(vector(2, 3, 1), filled(false, 1, 2, 3)).gives(t, numbers([]int{3, 1, 2}, 1, 4, 2, 5, 3, 6))
	transpose(vector(3, 1, 2), filled(false, 1, 2, 3)).gives(t, numbers([]int{2, 3, 1}, 1, 2, 3, 4, 5, 6))
	transpose(vector(2, 3, 1), filled(false, 2, 2, 2)).gives(t, numbers([]int{2, 2, 2}, 1, 3, 5, 7, 2, 4, 6, 8))
	transpose(vector(3, 1, 2), filled(false, 2, 2, 2)).gives(t, numbers([]int{2, 2, 2}, 1, 5, 2, 6, 3, 7, 4, 8))
	transpose(vector(1, 3, 2), filled(false, 2, 1, 2)).gives(t, numbers([]int{2, 2, 1}, 1, 2, 3, 4))
	transpose(vector(2, 1), none(0, 3)).gives(t, none(3, 0))
	transpose(vector(3, 1, 2), noLetter(2, 0, 4)).gives(t, noLetter(0, 4, 2))
	transpose(vector(2, 1), filled(false, 10000, 1)).gives(t, filled(false, 1, 10000))
}

func TestTransposeScalarsAndVectors(t *testing.T) {
	for _, a := range []impl.Array{scalar(7), letter('a')} {
		transpose(vector(), a).gives(t, a)
		// A list of one number is one too many.
		transpose(scalar(1), a).fails(t, impl.ErrLength)
		transpose(vector(1), a).fails(t, impl.ErrLength)
	}
	for _, a := range []impl.Array{vector(), vector(7), upTo(5), letters(""), letters("abc")} {
		transpose(scalar(1), a).gives(t, a)
		transpose(vector(1), a).gives(t, a)
		transpose(vector(), a).fails(t, impl.ErrLength)
		transpose(vector(1, 2), a).fails(t, impl.ErrLength)
		for _, n := range []int{0, 2, -1, top, -top} {
			transpose(scalar(n), a).fails(t, impl.ErrDomain)
			transpose(vector(n), a).fails(t, impl.ErrDomain)
		}
	}
}

// TestTransposeByEveryOrder has shapes of every rank whose axes are told apart, and such without elements.
func TestTransposeByEveryOrder(t *testing.T) {
	for _, shape := range [][]int{{}, {3}, {0}, {2, 3}, {0, 3}, {2, 0}, {2, 3, 4}, {2, 0, 4}, {2, 3, 1, 4}, {0, 3, 1, 4}, {2, 3, 1, 4, 5}, {2, 3, 1, 4, 0}, {2, 2, 2, 2, 2}, {1, 1, 1, 1, 1}} {
		for _, order := range ordersOf(len(shape)) {
			for _, a := range both(shape...) {
				want := impl.Array{Char: a.Char, Shape: make([]int, len(shape)), Data: make([]int, len(a.Data))}
				for axis, number := range order {
					want.Shape[number-1] = shape[axis]
				}
				// Written where each element goes, not read from where it comes.
				for i, from := range indexesOf(shape) {
					to := make([]int, len(shape))
					for axis, number := range order {
						to[number-1] = from[axis]
					}
					place := 0
					for axis, length := range want.Shape {
						place = place*length + to[axis]
					}
					want.Data[place] = a.Data[i]
				}
				transpose(vector(order...), a).gives(t, want)
			}
		}
	}
}

func TestTransposeWrongLists(t *testing.T) {
	for rank := range impl.MaxRank + 1 {
		shape := slices.Repeat([]int{2}, rank)
		order := upTo(rank).Data
		for _, a := range slices.Concat(both(shape...), both(make([]int, rank)...)) {
			for count := range impl.MaxRank + 3 {
				if count == rank {
					continue
				}
				// ErrLength comes ahead of what the numbers are.
				for _, n := range []int{0, 1, -1, 9, top} {
					transpose(full(false, n, count), a).fails(t, impl.ErrLength)
				}
				transpose(upTo(count), a).fails(t, impl.ErrLength)
			}
			transpose(upTo(10000), a).fails(t, impl.ErrLength)
			for place := range rank {
				for _, n := range []int{0, -1, -rank, rank + 1, rank + 2, 1 << 32, 1<<32 + place + 1, -1<<32 + place + 1, top, -top, order[(place+1)%rank]} {
					if n != order[place] {
						transpose(vector(replacedAt(order, place, n)...), a).fails(t, impl.ErrDomain)
					}
				}
			}
			if rank > 1 {
				transpose(full(false, 1, rank), a).fails(t, impl.ErrDomain)
				transpose(full(false, rank, rank), a).fails(t, impl.ErrDomain)
				transpose(vector(slices.Insert(upTo(rank-1).Data, 0, 0)...), a).fails(t, impl.ErrDomain)
			}
		}
	}
	// The same sum and product as an order's.
	transpose(vector(2, 2, 2), filled(false, 2, 2, 2)).fails(t, impl.ErrDomain)
	transpose(vector(1, 2, 4, 4, 4), filled(false, 2, 2, 2, 2, 2)).fails(t, impl.ErrDomain)
	transpose(vector(3, 3, 3, 3, 3), filled(false, 2, 2, 2, 2, 2)).fails(t, impl.ErrDomain)
}
