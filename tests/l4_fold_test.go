package tests

import (
	"slices"
	"testing"

	"loop.example/s02542/impl"
)

// emptyAnswers are what an op gives of no elements.
var emptyAnswers = map[int]int{
	impl.FnAdd: 0, impl.FnSub: 0, impl.FnMul: 1, impl.FnDiv: 1, impl.FnMin: top, impl.FnMax: -top, impl.FnMod: 0, impl.FnPow: 1,
	impl.FnEq: 1, impl.FnNe: 0, impl.FnLt: 0, impl.FnLe: 1, impl.FnGe: 1, impl.FnGt: 0, impl.FnAnd: 1, impl.FnOr: 0,
}

var bothEnds = []bool{false, true}

func TestFoldOfVectors(t *testing.T) {
	for _, c := range []struct {
		op   int
		data []int
		want int
	}{
		{impl.FnAdd, []int{1, 2, 3, 4}, 10}, {impl.FnSub, []int{1, 2, 3, 4}, -2}, {impl.FnSub, []int{5, 3, 1}, 3}, {impl.FnSub, []int{5, 3}, 2}, {impl.FnMul, []int{2, 3, 4}, 24}, {impl.FnMul, []int{2, -3, 0, 9}, 0},
		{impl.FnDiv, []int{12, 6, 3, 3}, 2}, {impl.FnDiv, []int{8, 4, 2}, 4}, {impl.FnDiv, []int{3, 0, 0}, 3}, {impl.FnMin, []int{4, -2, 7}, -2}, {impl.FnMax, []int{4, -2, 7}, 7}, {impl.FnMod, []int{5, 7, 17}, 3}, {impl.FnMod, []int{2, 0, 7}, 1},
		{impl.FnPow, []int{2, 3, 2}, 512}, {impl.FnPow, []int{2, 1, 9}, 2}, {impl.FnEq, []int{1, 3, 3}, 1}, {impl.FnEq, []int{3, 3, 3}, 0}, {impl.FnNe, []int{1, 3, 3}, 1}, {impl.FnLt, []int{0, 3, 9}, 1}, {impl.FnLt, []int{1, 3, 9}, 0},
		{impl.FnLe, []int{2, 5, 4}, 0}, {impl.FnLe, []int{0, 5, 4}, 1}, {impl.FnGe, []int{1, 2, 5}, 1}, {impl.FnGe, []int{0, 5, 2}, 0}, {impl.FnGt, []int{1, 2, 5}, 1}, {impl.FnGt, []int{1, 5, 2}, 0}, {impl.FnAnd, []int{1, 1, 1}, 1}, {impl.FnAnd, []int{1, 0, 1}, 0}, {impl.FnOr, []int{0, 0, 0}, 0}, {impl.FnOr, []int{0, 0, 1}, 1},
	} {
		for _, first := range bothEnds {
			fold(c.op, vector(c.data...), first).gives(t, scalar(c.want))
		}
		fold(c.op, numbers([]int{1, len(c.data)}, c.data...), false).gives(t, vector(c.want))
		fold(c.op, numbers([]int{len(c.data), 1}, c.data...), true).gives(t, vector(c.want))
		fold(c.op, numbers([]int{1, len(c.data)}, c.data...), true).gives(t, vector(c.data...))
		fold(c.op, numbers([]int{len(c.data), 1}, c.data...), false).gives(t, vector(c.data...))
	}
}

func TestFoldAlongAxes(t *testing.T) {
	fold(impl.FnAdd, filled(false, 2, 3), false).gives(t, vector(6, 15))
	fold(impl.FnAdd, filled(false, 2, 3), true).gives(t, vector(5, 7, 9))
	fold(impl.FnSub, filled(false, 3, 2), true).gives(t, vector(3, 4))
	fold(impl.FnSub, filled(false, 2, 3), false).gives(t, vector(2, 5))
	fold(impl.FnAdd, filled(false, 2, 3, 2), false).gives(t, numbers([]int{2, 3}, 3, 7, 11, 15, 19, 23))
	fold(impl.FnAdd, filled(false, 2, 3, 2), true).gives(t, numbers([]int{3, 2}, 8, 10, 12, 14, 16, 18))
	fold(impl.FnMax, filled(false, 1, 2, 1, 2, 2), false).gives(t, numbers([]int{1, 2, 1, 2}, 2, 4, 6, 8))
	fold(impl.FnMin, filled(false, 2, 1, 2, 1, 2), true).gives(t, numbers([]int{1, 2, 1, 2}, 1, 2, 3, 4))
}

func TestFoldAndScanOfScalars(t *testing.T) {
	for _, op := range everyOp {
		for _, first := range bothEnds {
			for _, n := range goodNumbers {
				fold(op, scalar(n), first).gives(t, scalar(n))
				scan(op, scalar(n), first).gives(t, scalar(n))
			}
			for _, n := range goodCharacters {
				fold(op, full(true, n), first).gives(t, full(true, n))
				scan(op, full(true, n), first).gives(t, full(true, n))
			}
		}
	}
}

// withoutAxis is a shape without its first or last number.
func withoutAxis(shape []int, first bool) []int {
	if len(shape) == 0 {
		return nil
	}
	if first {
		return shape[1:]
	}
	return shape[:len(shape)-1]
}

func axisLength(shape []int, first bool) int {
	if len(shape) == 0 {
		return 1
	}
	if first {
		return shape[0]
	}
	return shape[len(shape)-1]
}

// TestFoldOfNoneOneAndTwo has every shape with axes of 0, 1 and 2 elements, of numbers and of characters.
func TestFoldOfNoneOneAndTwo(t *testing.T) {
	for _, shape := range shapesUpTo(2) {
		for _, first := range bothEnds {
			others := withoutAxis(shape, first)
			for _, op := range everyOp {
				nums, text := full(false, 1, shape...), full(true, 'q', shape...)
				two, _ := impl.Scalar2(op, scalar(1), scalar(1))
				switch axisLength(shape, first) {
				case 0:
					fold(op, nums, first).gives(t, full(false, emptyAnswers[op], others...))
					fold(op, text, first).fails(t, impl.ErrDomain)
				case 1:
					fold(op, full(false, 7, shape...), first).gives(t, full(false, 7, others...))
					fold(op, filled(false, shape...), first).gives(t, filled(false, others...))
					fold(op, filled(true, shape...), first).gives(t, filled(true, others...))
				case 2:
					fold(op, nums, first).gives(t, full(false, two.Data[0], others...))
					fold(op, text, first).fails(t, impl.ErrDomain)
				}
			}
		}
	}
}

// TestFoldOfNoElementsInGreatShapes has results with as many elements as an array may have, made of none.
func TestFoldOfNoElementsInGreatShapes(t *testing.T) {
	for _, op := range everyOp {
		fold(op, none(10000, 0), false).gives(t, full(false, emptyAnswers[op], 10000))
		fold(op, none(0, 100, 100), true).gives(t, full(false, emptyAnswers[op], 100, 100))
		fold(op, none(0, 10000), false).gives(t, none(0))
		fold(op, none(10000, 0), true).gives(t, none(0))
		fold(op, none(10, 10, 10, 10, 0), false).gives(t, full(false, emptyAnswers[op], 10, 10, 10, 10))
		fold(op, noLetter(0, 10000), true).fails(t, impl.ErrDomain)
		fold(op, noLetter(0, 3), false).fails(t, impl.ErrDomain)
		fold(op, noLetter(0, 1), false).gives(t, noLetter(0))
		fold(op, noLetter(1, 0), true).gives(t, noLetter(0))
	}
}

func TestScanOfNoneOneAndTwo(t *testing.T) {
	for _, shape := range shapesUpTo(2) {
		for _, first := range bothEnds {
			for _, op := range everyOp {
				nums, text := filled(false, shape...), filled(true, shape...)
				if axisLength(shape, first) < 2 {
					scan(op, nums, first).gives(t, nums)
					scan(op, text, first).gives(t, text)
					continue
				}
				scan(op, text, first).fails(t, impl.ErrDomain)
				if len(nums.Data) == 0 {
					scan(op, nums, first).gives(t, nums)
				}
			}
		}
	}
}

func TestScanOfVectors(t *testing.T) {
	for _, c := range []struct {
		op         int
		data, want []int
	}{
		{impl.FnAdd, []int{1, 2, 3, 4}, []int{1, 3, 6, 10}}, {impl.FnSub, []int{1, 2, 3, 4}, []int{1, -1, 2, -2}}, {impl.FnSub, []int{5, 3, 1}, []int{5, 2, 3}}, {impl.FnMul, []int{1, 2, 3, 4}, []int{1, 2, 6, 24}},
		{impl.FnDiv, []int{8, 4, 2, 1}, []int{8, 2, 4, 4}}, {impl.FnMin, []int{4, 7, -2, 9}, []int{4, 4, -2, -2}}, {impl.FnMax, []int{4, 7, -2, 9}, []int{4, 7, 7, 9}}, {impl.FnMod, []int{5, 7, 17}, []int{5, 2, 3}}, {impl.FnPow, []int{2, 3, 2}, []int{2, 8, 512}},
		{impl.FnEq, []int{1, 3, 3}, []int{1, 0, 1}}, {impl.FnNe, []int{1, 0, 1, 1}, []int{1, 1, 0, 1}}, {impl.FnLt, []int{0, 3, 9}, []int{0, 1, 1}}, {impl.FnLe, []int{2, 5, 4}, []int{2, 1, 0}}, {impl.FnGe, []int{1, 2, 5}, []int{1, 0, 1}}, {impl.FnGt, []int{1, 2, 5}, []int{1, 0, 1}},
		{impl.FnAnd, []int{1, 1, 0, 1}, []int{1, 1, 0, 0}}, {impl.FnOr, []int{0, 1, 0, 0}, []int{0, 1, 1, 1}}, {impl.FnAnd, []int{7}, []int{7}},
	} {
		for _, first := range bothEnds {
			scan(c.op, vector(c.data...), first).gives(t, vector(c.want...))
		}
		scan(c.op, numbers([]int{1, len(c.data)}, c.data...), false).gives(t, numbers([]int{1, len(c.data)}, c.want...))
		scan(c.op, numbers([]int{len(c.data), 1}, c.data...), true).gives(t, numbers([]int{len(c.data), 1}, c.want...))
	}
	scan(impl.FnAdd, filled(false, 2, 3), false).gives(t, numbers([]int{2, 3}, 1, 3, 6, 4, 9, 15))
	scan(impl.FnAdd, filled(false, 2, 3), true).gives(t, numbers([]int{2, 3}, 1, 2, 3, 5, 7, 9))
	scan(impl.FnSub, filled(false, 3, 1, 2), true).gives(t, numbers([]int{3, 1, 2}, 1, 2, -2, -2, 3, 4))
	scan(impl.FnSub, filled(false, 2, 1, 3), false).gives(t, numbers([]int{2, 1, 3}, 1, -1, 2, 4, -1, 5))
}

// TestFoldFromTheRight has vectors whose sums, products and so on are all right from one end and not from the other.
func TestFoldFromTheRight(t *testing.T) {
	for _, c := range []struct {
		op   int
		data []int
		want int
	}{
		{impl.FnAdd, []int{top, 1, -1}, top}, {impl.FnAdd, []int{-top, -1, 1}, -top}, {impl.FnAdd, []int{1, top, -top}, 1}, {impl.FnMul, []int{top, 2, 0}, 0}, {impl.FnMul, []int{1 << 40, 1 << 40, 0}, 0}, {impl.FnSub, []int{top, -1, -1}, top},
		{impl.FnDiv, []int{7, 2, 2}, 7}, {impl.FnDiv, []int{5, 0, 0}, 5}, {impl.FnPow, []int{2, 100, 0}, 2},
	} {
		fold(c.op, vector(c.data...), false).gives(t, scalar(c.want))
		fold(c.op, vector(c.data...), true).gives(t, scalar(c.want))
	}
	for _, c := range []struct {
		op, code int
		data     []int
	}{
		{impl.FnAdd, impl.ErrLimit, []int{-1, 1, top}}, {impl.FnAdd, impl.ErrLimit, []int{-top, top, 1}}, {impl.FnMul, impl.ErrLimit, []int{0, 2, top}}, {impl.FnMul, impl.ErrLimit, []int{0, 1 << 32, 1 << 32}}, {impl.FnSub, impl.ErrLimit, []int{top, top, -1}}, {impl.FnSub, impl.ErrLimit, []int{top, 1, 2}},
		{impl.FnDiv, impl.ErrDomain, []int{0, 5, 0}}, {impl.FnDiv, impl.ErrDomain, []int{8, 2, 4}}, {impl.FnPow, impl.ErrLimit, []int{1, 2, 100}}, {impl.FnPow, impl.ErrDomain, []int{1, 2, -1}}, {impl.FnAnd, impl.ErrDomain, []int{0, 0, 2}}, {impl.FnOr, impl.ErrDomain, []int{2, 1, 1}},
		// Two codes in one vector: the one that is nearer to the end comes up.
		{impl.FnPow, impl.ErrDomain, []int{10, 99, 2, -1}}, {impl.FnPow, impl.ErrLimit, []int{3, -5, 10, 99}}, {impl.FnDiv, impl.ErrDomain, []int{top, 0, 7, 2}},
	} {
		fold(c.op, vector(c.data...), false).fails(t, c.code)
		fold(c.op, vector(c.data...), true).fails(t, c.code)
	}
}

func TestFoldFirstCode(t *testing.T) {
	limit, domain := []int{10, 99}, []int{10, -1}
	fold(impl.FnPow, numbers([]int{3, 2}, slices.Concat([]int{2, 2}, limit, domain)...), false).fails(t, impl.ErrLimit)
	fold(impl.FnPow, numbers([]int{3, 2}, slices.Concat([]int{2, 2}, domain, limit)...), false).fails(t, impl.ErrDomain)
	fold(impl.FnPow, numbers([]int{2, 3}, 2, 10, 10, 2, 99, -1), true).fails(t, impl.ErrLimit)
	fold(impl.FnPow, numbers([]int{2, 3}, 2, 10, 10, 2, -1, 99), true).fails(t, impl.ErrDomain)
	// The first column's code comes up in its last step, the second's in its first one.
	fold(impl.FnPow, numbers([]int{3, 2}, 10, 2, 99, 10, 1, -1), true).fails(t, impl.ErrLimit)
	fold(impl.FnPow, numbers([]int{3, 2}, 2, 7, -3, 10, 1, 99), true).fails(t, impl.ErrDomain)
}

func TestScanFirstCode(t *testing.T) {
	scan(impl.FnPow, vector(10, 99, -1), false).fails(t, impl.ErrLimit)
	scan(impl.FnPow, vector(10, -1, 99), false).fails(t, impl.ErrDomain)
	scan(impl.FnPow, vector(10, 1, -1, 99), false).fails(t, impl.ErrDomain)
	// Along the first axis the second row is gone through ahead of the third.
	scan(impl.FnPow, numbers([]int{3, 2}, 10, 10, 1, 99, -1, 1), true).fails(t, impl.ErrLimit)
	scan(impl.FnPow, numbers([]int{3, 2}, 10, 10, 1, -1, 99, 1), true).fails(t, impl.ErrDomain)
	scan(impl.FnPow, numbers([]int{2, 3}, 10, 1, -1, 10, 99, 1), false).fails(t, impl.ErrDomain)
	scan(impl.FnPow, numbers([]int{2, 3}, 10, 99, 1, 10, -1, 1), false).fails(t, impl.ErrLimit)
	// A beginning may have a code where the whole has none, and no code where the whole has one.
	fold(impl.FnAdd, vector(top, 1, -1), false).gives(t, scalar(top))
	scan(impl.FnAdd, vector(top, 1, -1), false).fails(t, impl.ErrLimit)
	fold(impl.FnMul, vector(top, 2, 0), false).gives(t, scalar(0))
	scan(impl.FnMul, vector(top, 2, 0), false).fails(t, impl.ErrLimit)
	scan(impl.FnAdd, vector(-1, 1, top), false).fails(t, impl.ErrLimit)
	scan(impl.FnMul, vector(0, 2, top), false).fails(t, impl.ErrLimit)
	scan(impl.FnAnd, vector(2, 1), false).fails(t, impl.ErrDomain)
	scan(impl.FnAnd, vector(0, 2), false).fails(t, impl.ErrDomain)
}

func TestFoldAndScanOrderOfCodes(t *testing.T) {
	for _, first := range bothEnds {
		for _, op := range wrongOps {
			fold(op, letters("ab"), first).fails(t, impl.ErrDomain)
			scan(op, scalar(4), first).fails(t, impl.ErrDomain)
			fold(op, scalar(4), first).fails(t, impl.ErrDomain)
			fold(op, vector(4), first).fails(t, impl.ErrDomain)
			scan(op, vector(4), first).fails(t, impl.ErrDomain)
		}
		fold(impl.FnAdd, numbers([]int{1}, top+1), first).fails(t, impl.ErrDomain)
		scan(impl.FnAdd, numbers([]int{1}, -top-1), first).fails(t, impl.ErrDomain)
		scan(impl.FnEq, letters("aa"), first).fails(t, impl.ErrDomain)
		fold(impl.FnEq, letters("aa"), first).fails(t, impl.ErrDomain)
		fold(impl.FnNe, letters(""), first).fails(t, impl.ErrDomain)
		scan(impl.FnNe, letters(""), first).gives(t, letters(""))
	}
}

// TestFoldAndScanOfAsManyAsThereAre would take long if each beginning were copied or gone through more than once.
func TestFoldAndScanOfAsManyAsThereAre(t *testing.T) {
	want := make([]int, 10000)
	for i := range want {
		want[i] = (i + 1) * (i + 2) / 2
	}
	for _, first := range bothEnds {
		fold(impl.FnAdd, filled(false, 10000), first).gives(t, scalar(want[9999]))
		scan(impl.FnAdd, filled(false, 10000), first).gives(t, vector(want...))
	}
	fold(impl.FnAdd, filled(false, 10000, 1), true).gives(t, vector(want[9999]))
	fold(impl.FnAdd, filled(false, 10000, 1), false).gives(t, filled(false, 10000))
}
