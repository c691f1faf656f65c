package tests

import (
	"slices"
	"testing"

	"loop.example/s02542/impl"
)

func TestOuter(t *testing.T) {
	outer(impl.FnMul, vector(1, 2), vector(3, 4, 5)).gives(t, numbers([]int{2, 3}, 3, 4, 5, 6, 8, 10))
	outer(impl.FnSub, vector(10, 20, 30), vector(1, 2)).gives(t, numbers([]int{3, 2}, 9, 8, 19, 18, 29, 28))
	outer(impl.FnSub, filled(false, 2, 2), vector(1, 2)).gives(t, numbers([]int{2, 2, 2}, 0, -1, 1, 0, 2, 1, 3, 2))
	outer(impl.FnSub, vector(1, 2), filled(false, 2, 2)).gives(t, numbers([]int{2, 2, 2}, 0, -1, -2, -3, 1, 0, -1, -2))
	outer(impl.FnPow, vector(2, 3), vector(0, 1, 2)).gives(t, numbers([]int{2, 3}, 1, 2, 4, 1, 3, 9))
	outer(impl.FnEq, letters("ab"), letters("bab")).gives(t, numbers([]int{2, 3}, 0, 1, 0, 1, 0, 1))
	outer(impl.FnNe, letters("ab"), vector(97, 98)).gives(t, full(false, 1, 2, 2))
	outer(impl.FnEq, vector(97, 98), letters("ab")).gives(t, full(false, 0, 2, 2))
}

func TestOuterOfScalarsAndOneElement(t *testing.T) {
	outer(impl.FnSub, scalar(7), scalar(5)).gives(t, scalar(2))
	outer(impl.FnSub, scalar(7), filled(false, 2, 2)).gives(t, numbers([]int{2, 2}, 6, 5, 4, 3))
	outer(impl.FnSub, filled(false, 2, 2), scalar(7)).gives(t, numbers([]int{2, 2}, -6, -5, -4, -3))
	for left := range impl.MaxRank + 1 {
		for right := range impl.MaxRank + 1 {
			c := outer(impl.FnSub, full(false, 7, ones(left)...), full(false, 5, ones(right)...))
			if left+right <= impl.MaxRank {
				c.gives(t, numbers(ones(left+right), 2))
			} else {
				c.fails(t, impl.ErrLimit)
			}
		}
	}
}

// TestOuterOnEveryShape has each pair of shapes with axes of 0, 1 and 2 elements up to one axis too many.
func TestOuterOnEveryShape(t *testing.T) {
	for _, left := range shapesUpTo(2) {
		for _, right := range shapesUpTo(2) {
			shape := slices.Concat(left, right)
			if len(shape) > impl.MaxRank+1 {
				continue
			}
			a, b := full(false, 7, left...), full(false, 5, right...)
			letters := full(true, 7, left...)
			if len(shape) > impl.MaxRank {
				outer(impl.FnSub, a, b).fails(t, impl.ErrLimit)
				outer(impl.FnSub, letters, b).fails(t, impl.ErrLimit)
				continue
			}
			outer(impl.FnSub, a, b).gives(t, full(false, 2, shape...))
			outer(impl.FnNe, letters, b).gives(t, full(false, 1, shape...))
			outer(impl.FnSub, letters, b).fails(t, impl.ErrDomain)
			outer(impl.FnLt, b, letters).fails(t, impl.ErrDomain)
		}
	}
}

func TestOuterJustValidAndTooGreat(t *testing.T) {
	for _, c := range []struct {
		left, right []int
		isValid     bool
	}{
		{[]int{100}, []int{100}, true}, {[]int{100}, []int{101}, false}, {[]int{101}, []int{100}, false}, {[]int{10000}, []int{1}, true}, {[]int{10000}, nil, true}, {nil, []int{10000}, true}, {[]int{5000}, []int{2}, true}, {[]int{5000}, []int{3}, false}, {[]int{2}, []int{5001}, false}, {[]int{73}, []int{137}, false},
		{[]int{10000}, []int{10000}, false}, {[]int{10, 10}, []int{10, 10}, true}, {[]int{10, 10}, []int{10, 11}, false}, {[]int{10, 10, 10}, []int{5, 2}, true}, {[]int{10, 10, 10}, []int{5, 3}, false}, {[]int{1, 1, 1}, []int{1, 1, 1}, false}, {[]int{1, 1, 1, 1, 1}, []int{1}, false}, {[]int{1, 1, 1, 1, 1}, nil, true},
		// Without elements: what counts is the product of the others.
		{[]int{0}, []int{10000}, true}, {[]int{10000}, []int{0}, true}, {[]int{0, 100}, []int{100}, true}, {[]int{0, 100}, []int{101}, false}, {[]int{100, 0}, []int{101}, false}, {[]int{100}, []int{101, 0}, false}, {[]int{101}, []int{0, 100}, false}, {[]int{0, 5000}, []int{0, 2}, true}, {[]int{0, 5000}, []int{0, 3}, false},
		{[]int{10000, 0}, []int{10000, 0}, false}, {[]int{0, 0, 0}, []int{0, 0}, true}, {[]int{0, 0, 0}, []int{0, 0, 0}, false}, {[]int{0}, []int{1, 1, 1, 1, 1}, false}, {[]int{1, 1, 0}, []int{1, 1, 1}, false},
	} {
		a, b := full(false, 3, c.left...), full(false, 1, c.right...)
		wantOk(t, a)
		wantOk(t, b)
		if c.isValid {
			outer(impl.FnSub, a, b).gives(t, full(false, 2, slices.Concat(c.left, c.right)...))
			outer(impl.FnSub, full(true, 3, c.left...), b).fails(t, impl.ErrDomain)
			continue
		}
		// The shape is asked ahead of characters and of the elements, behind the op.
		outer(impl.FnSub, a, b).fails(t, impl.ErrLimit)
		outer(impl.FnDiv, a, full(false, 0, c.right...)).fails(t, impl.ErrLimit)
		outer(impl.FnSub, full(true, 3, c.left...), b).fails(t, impl.ErrLimit)
		outer(impl.FnAdd, a, full(true, 3, c.right...)).fails(t, impl.ErrLimit)
		outer(17, a, b).fails(t, impl.ErrDomain)
		outer(0, a, b).fails(t, impl.ErrDomain)
		a.Data = append(a.Data, 1)
		outer(impl.FnSub, a, b).fails(t, impl.ErrDomain)
	}
}

func TestOuterFirstCode(t *testing.T) {
	outer(impl.FnPow, vector(2, 10), vector(3, 99, -1)).fails(t, impl.ErrLimit)
	outer(impl.FnPow, vector(2, 10), vector(3, -1, 99)).fails(t, impl.ErrDomain)
	outer(impl.FnPow, vector(1, 10), vector(3, 99, -1)).fails(t, impl.ErrDomain)
	// The first row has one code, the first column the other.
	outer(impl.FnPow, vector(1, top), vector(2, -1)).fails(t, impl.ErrDomain)
	outer(impl.FnMul, vector(1, 2), vector(1, top)).fails(t, impl.ErrLimit)
	outer(impl.FnAnd, vector(0, 1), vector(1, 2)).fails(t, impl.ErrDomain)
	outer(impl.FnDiv, vector(0, 5), vector(1, 0)).fails(t, impl.ErrDomain)
	outer(impl.FnDiv, vector(0, 0), vector(1, 0)).gives(t, numbers([]int{2, 2}, 0, 1, 0, 1))
}

func TestInner(t *testing.T) {
	square := filled(false, 2, 2)
	inner(impl.FnAdd, impl.FnMul, square, square).gives(t, numbers([]int{2, 2}, 7, 10, 15, 22))
	inner(impl.FnAdd, impl.FnMul, square, vector(5, 6)).gives(t, vector(17, 39))
	inner(impl.FnAdd, impl.FnMul, vector(5, 6), square).gives(t, vector(23, 34))
	inner(impl.FnAdd, impl.FnMul, vector(5, 6), vector(7, 8)).gives(t, scalar(83))
	inner(impl.FnAdd, impl.FnMul, filled(false, 2, 3), filled(false, 3, 1)).gives(t, numbers([]int{2, 1}, 14, 32))
	inner(impl.FnSub, impl.FnSub, vector(1, 2, 3), vector(10, 20, 40)).gives(t, scalar(-28))
	inner(impl.FnMin, impl.FnAdd, numbers([]int{2, 2}, 0, 3, 9, 0), numbers([]int{2, 2}, 0, 3, 9, 0)).gives(t, numbers([]int{2, 2}, 0, 3, 9, 0))
	inner(impl.FnAnd, impl.FnEq, characters([]int{3, 2}, "abcdab"), letters("ab")).gives(t, vector(1, 0, 1))
	inner(impl.FnOr, impl.FnNe, letters("ab"), characters([]int{2, 3}, "axabbx")).gives(t, vector(0, 1, 1))
	inner(impl.FnAdd, impl.FnEq, letters("abc"), vector(97, 98, 99)).gives(t, scalar(0))
	inner(impl.FnAdd, impl.FnNe, vector(97, 98, 99), letters("abc")).gives(t, scalar(3))
	inner(impl.FnAdd, impl.FnMul, filled(false, 2, 1, 2), filled(false, 2, 1, 2)).gives(t, numbers([]int{2, 1, 1, 2}, 7, 10, 15, 22))
	inner(impl.FnAdd, impl.FnSub, filled(false, 2, 2, 1), filled(false, 1, 2)).gives(t, numbers([]int{2, 2, 2}, 0, -1, 1, 0, 2, 1, 3, 2))
}

func TestInnerOfScalars(t *testing.T) {
	for _, f := range everyOp {
		inner(f, impl.FnSub, scalar(7), scalar(5)).gives(t, scalar(2))
		inner(f, impl.FnSub, scalar(7), vector(5)).gives(t, scalar(2))
		inner(f, impl.FnSub, vector(7), scalar(5)).gives(t, scalar(2))
		inner(f, impl.FnSub, scalar(7), vector()).gives(t, scalar(emptyAnswers[f]))
		inner(f, impl.FnSub, vector(), scalar(7)).gives(t, scalar(emptyAnswers[f]))
		inner(f, impl.FnSub, scalar(7), none(0, 3)).gives(t, full(false, emptyAnswers[f], 3))
		inner(f, impl.FnSub, none(3, 0), scalar(7)).gives(t, full(false, emptyAnswers[f], 3))
		inner(f, impl.FnSub, scalar(7), none(3, 0)).gives(t, none(0))
		inner(f, impl.FnSub, none(0, 3), scalar(7)).gives(t, none(0))
	}
	inner(impl.FnAdd, impl.FnMul, scalar(2), vector(1, 2, 3)).gives(t, scalar(12))
	inner(impl.FnAdd, impl.FnSub, scalar(2), vector(1, 2, 3)).gives(t, scalar(0))
	inner(impl.FnAdd, impl.FnSub, vector(1, 2, 3), scalar(3)).gives(t, scalar(-3))
	inner(impl.FnAdd, impl.FnMul, scalar(2), filled(false, 2, 3)).gives(t, vector(10, 14, 18))
	inner(impl.FnAdd, impl.FnMul, filled(false, 2, 3), scalar(2)).gives(t, vector(12, 30))
	inner(impl.FnAdd, impl.FnMul, filled(false, 2, 1, 2), scalar(2)).gives(t, numbers([]int{2, 1}, 6, 14))
	inner(impl.FnAdd, impl.FnEq, letter('a'), letters("abca")).gives(t, scalar(2))
	inner(impl.FnAdd, impl.FnNe, characters([]int{2, 2}, "abaa"), letter('a')).gives(t, vector(1, 0))
	inner(impl.FnAdd, impl.FnMul, letter('a'), vector(1, 2)).fails(t, impl.ErrDomain)
	inner(impl.FnAdd, impl.FnMul, letter('a'), scalar(1)).fails(t, impl.ErrDomain)
	inner(impl.FnAdd, impl.FnMul, scalar(1), letter('a')).fails(t, impl.ErrDomain)
	inner(impl.FnAdd, impl.FnEq, letter('a'), letter('a')).gives(t, scalar(1))
	// A scalar beside the greatest axis.
	inner(impl.FnAdd, impl.FnMul, scalar(2), full(false, 3, 10000)).gives(t, scalar(60000))
	inner(impl.FnAdd, impl.FnMul, full(false, 3, 1, 10000), scalar(2)).gives(t, vector(60000))
}

func TestInnerLengths(t *testing.T) {
	for _, c := range []struct{ left, right []int }{
		{[]int{2}, []int{3}}, {[]int{1}, []int{3}}, {[]int{3}, []int{1}}, {[]int{0}, []int{1}}, {[]int{1}, []int{0}}, {[]int{2, 3}, []int{2, 3}}, {[]int{3, 2}, []int{3, 2}}, {[]int{1, 1}, []int{2}}, {[]int{2}, []int{1, 1}}, {[]int{1, 2, 3}, []int{2}}, {[]int{2, 0}, []int{2, 0}}, {[]int{0, 2}, []int{0, 2}}, {[]int{5, 1}, []int{5}},
		// No valid array has these shapes either, but the lengths are asked first.
		{[]int{200, 1}, []int{2, 200}}, {[]int{1, 1, 1, 2}, []int{3, 1, 1, 1}}, {[]int{200, 0}, []int{1, 200}},
	} {
		for _, g := range everyOp {
			inner(impl.FnAdd, g, full(false, 2, c.left...), full(false, -3, c.right...)).fails(t, impl.ErrLength)
			inner(g, impl.FnAdd, full(true, 2, c.left...), full(false, -3, c.right...)).fails(t, impl.ErrLength)
			inner(g, impl.FnAdd, full(false, top, c.left...), full(false, top, c.right...)).fails(t, impl.ErrLength)
		}
		inner(0, impl.FnAdd, full(false, 2, c.left...), full(false, 2, c.right...)).fails(t, impl.ErrDomain)
		inner(impl.FnAdd, 17, full(false, 2, c.left...), full(false, 2, c.right...)).fails(t, impl.ErrDomain)
	}
}

func TestInnerJustValidAndTooGreat(t *testing.T) {
	for _, c := range []struct {
		left, right []int
		isValid     bool
	}{
		{[]int{100, 2}, []int{2, 100}, true}, {[]int{100, 2}, []int{2, 101}, false}, {[]int{101, 2}, []int{2, 100}, false}, {[]int{10000, 1}, []int{1}, true}, {[]int{10000, 1}, []int{1, 1}, true}, {[]int{10000, 1}, []int{1, 2}, false}, {[]int{1}, []int{1, 10000}, true}, {[]int{100, 100}, []int{100, 100}, true},
		{[]int{100, 0}, []int{0, 100}, true}, {[]int{100, 0}, []int{0, 101}, false}, {[]int{10000, 0}, []int{0, 10000}, false}, {[]int{100, 0, 2}, []int{2, 100}, true}, {[]int{100, 0, 2}, []int{2, 101}, false}, {[]int{100, 2}, []int{2, 0, 101}, false}, {[]int{0, 2}, []int{2, 5000}, true},
		{[]int{1, 1, 1, 1}, []int{1, 1, 1}, true}, {[]int{1, 1, 1, 1}, []int{1, 1, 1, 1}, false}, {[]int{1, 1, 1, 1, 1}, []int{1, 1}, true}, {[]int{1, 1, 1, 1, 1}, []int{1, 1, 1}, false}, {[]int{1, 1, 1, 1, 0}, []int{0, 1}, true}, {[]int{1, 1, 1, 1, 0}, []int{0, 1, 1}, false}, {[]int{1, 1, 1, 0, 1}, []int{1, 0, 1, 1}, false}, {[]int{1, 1, 1, 1, 1}, []int{1, 1, 1, 1, 1}, false},
	} {
		a, b := full(false, 3, c.left...), full(false, 1, c.right...)
		wantOk(t, a)
		wantOk(t, b)
		shape := slices.Concat(c.left[:len(c.left)-1], c.right[1:])
		if c.isValid {
			n := 2
			if c.right[0] == 0 {
				n = -top
			}
			inner(impl.FnMax, impl.FnSub, a, b).gives(t, full(false, n, shape...))
			continue
		}
		inner(impl.FnMax, impl.FnSub, a, b).fails(t, impl.ErrLimit)
		inner(impl.FnMax, impl.FnDiv, a, full(false, 0, c.right...)).fails(t, impl.ErrLimit)
		inner(impl.FnMax, impl.FnSub, full(true, 3, c.left...), b).fails(t, impl.ErrLimit)
		inner(0, impl.FnSub, a, b).fails(t, impl.ErrDomain)
		inner(impl.FnMax, 17, a, b).fails(t, impl.ErrDomain)
		b.Data = append(b.Data, 1)
		inner(impl.FnMax, impl.FnSub, a, b).fails(t, impl.ErrDomain)
	}
}

// TestInnerWithoutElements has shapes in which the axis that is folded, the others, or both have none, of numbers and of characters.
func TestInnerWithoutElements(t *testing.T) {
	for _, left := range shapesUpTo(2) {
		for _, right := range shapesUpTo(2) {
			if len(left) == 0 || len(right) == 0 || len(left)+len(right) > impl.MaxRank+2 || left[len(left)-1] != right[0] {
				continue
			}
			shape := slices.Concat(left[:len(left)-1], right[1:])
			hasNone := slices.Contains(shape, 0)
			for _, a := range []impl.Array{full(false, 1, left...), full(true, 1, left...)} {
				for _, b := range []impl.Array{full(false, 1, right...), full(true, 1, right...)} {
					for _, g := range []int{impl.FnSub, impl.FnEq, impl.FnNe, impl.FnLe, impl.FnPow} {
						c := inner(impl.FnMin, g, a, b)
						one, _ := impl.Scalar2(g, full(a.Char, 1), full(b.Char, 1))
						switch {
						case hasNone:
							c.gives(t, none(shape...))
						case (a.Char || b.Char) && g != impl.FnEq && g != impl.FnNe:
							// Also where the folded axis has no elements, as Scalar2 of two such vectors has this code.
							c.fails(t, impl.ErrDomain)
						case right[0] == 0:
							c.gives(t, full(false, top, shape...))
						default:
							c.gives(t, full(false, one.Data[0], shape...))
						}
					}
				}
			}
		}
	}
}

func TestInnerOfNoElementsByEveryOp(t *testing.T) {
	for _, f := range everyOp {
		for _, g := range everyOp {
			inner(f, g, vector(), vector()).gives(t, scalar(emptyAnswers[f]))
			inner(f, g, none(2, 0), none(0, 3)).gives(t, full(false, emptyAnswers[f], 2, 3))
			inner(f, g, none(0, 2), filled(false, 2, 2)).gives(t, none(0, 2))
			inner(f, g, filled(true, 2, 2), noLetter(2, 0)).gives(t, none(2, 0))
			inner(f, g, noLetter(0, 0), none(0)).gives(t, none(0))
			c := inner(f, g, noLetter(0), vector())
			if g == impl.FnEq || g == impl.FnNe {
				c.gives(t, scalar(emptyAnswers[f]))
			} else {
				c.fails(t, impl.ErrDomain)
			}
		}
	}
}

// TestInnerFirstCode has one code of g and the other of f, or both of one of them.
func TestInnerFirstCode(t *testing.T) {
	// g's code in any pair comes ahead of f's in the same element, also in the first pair, at which f ends.
	inner(impl.FnAdd, impl.FnPow, vector(2, top, top), vector(-1, 1, 1)).fails(t, impl.ErrDomain)
	inner(impl.FnAdd, impl.FnPow, vector(top, top, 2), vector(1, 1, -1)).fails(t, impl.ErrDomain)
	inner(impl.FnAdd, impl.FnPow, vector(top, top, 2), vector(1, 1, 1)).fails(t, impl.ErrLimit)
	// g's codes from the first pair on, f's from the last.
	inner(impl.FnAdd, impl.FnPow, vector(10, 2), vector(99, -1)).fails(t, impl.ErrLimit)
	inner(impl.FnAdd, impl.FnPow, vector(2, 10), vector(-1, 99)).fails(t, impl.ErrDomain)
	inner(impl.FnPow, impl.FnAdd, vector(10, 99, 2, -1), scalar(0)).fails(t, impl.ErrDomain)
	inner(impl.FnPow, impl.FnAdd, vector(3, -5, 10, 99), scalar(0)).fails(t, impl.ErrLimit)
	// The elements in their order: f's code in the first, g's in the second, and the other way round.
	inner(impl.FnAdd, impl.FnPow, numbers([]int{2, 2}, top, top, 2, 2), vector(1, 1)).fails(t, impl.ErrLimit)
	inner(impl.FnAdd, impl.FnPow, vector(top, top), numbers([]int{2, 2}, 1, -1, 1, 1)).fails(t, impl.ErrLimit)
	inner(impl.FnAdd, impl.FnPow, vector(top, top), numbers([]int{2, 2}, -1, 1, 1, 1)).fails(t, impl.ErrDomain)
	inner(impl.FnAnd, impl.FnMul, numbers([]int{2, 1}, 1, top), numbers([]int{1, 2}, 1, 2)).fails(t, impl.ErrLimit)
	inner(impl.FnAnd, impl.FnMul, numbers([]int{2, 2}, 2, 1, top, 1), vector(2, 1)).fails(t, impl.ErrDomain)
	inner(impl.FnAnd, impl.FnMul, numbers([]int{2, 2}, top, 1, 2, 1), vector(2, 1)).fails(t, impl.ErrLimit)
	// Rows of a go before columns of b.
	inner(impl.FnMax, impl.FnPow, numbers([]int{2, 1}, 1, 10), numbers([]int{1, 2}, 99, -1)).fails(t, impl.ErrDomain)
	inner(impl.FnMax, impl.FnPow, numbers([]int{2, 1}, 10, 1), numbers([]int{1, 2}, 99, -1)).fails(t, impl.ErrLimit)
	// A vector of one is not folded, so that f has no code of it.
	inner(impl.FnAnd, impl.FnAdd, vector(3), vector(4)).gives(t, scalar(7))
	inner(impl.FnAnd, impl.FnAdd, vector(3, 3), vector(4, 4)).fails(t, impl.ErrDomain)
}

func TestInnerFromTheRight(t *testing.T) {
	inner(impl.FnAdd, impl.FnMul, vector(top, 1, -1), vector(1, 1, 1)).gives(t, scalar(top))
	inner(impl.FnAdd, impl.FnMul, vector(-1, 1, top), vector(1, 1, 1)).fails(t, impl.ErrLimit)
	inner(impl.FnAdd, impl.FnMul, numbers([]int{1, 3}, 1, top, -top), numbers([]int{3, 1}, 1, 1, 1)).gives(t, numbers([]int{1, 1}, 1))
	inner(impl.FnMul, impl.FnAdd, vector(top, 2, 0), vector(0, 0, 0)).gives(t, scalar(0))
	inner(impl.FnMul, impl.FnAdd, vector(0, 2, top), vector(0, 0, 0)).fails(t, impl.ErrLimit)
	inner(impl.FnSub, impl.FnMul, vector(1, 2, 3), vector(1, 1, 1)).gives(t, scalar(2))
}
