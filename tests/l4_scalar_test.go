package tests

import (
	"slices"
	"testing"

	"loop.example/s02542/impl"
)

const top = impl.MaxInt

func TestScalar1(t *testing.T) {
	for op, pairs := range map[int][][2]int{
		impl.FnAdd: {{0, 0}, {5, 5}, {-5, -5}, {top, top}, {-top, -top}},
		impl.FnSub: {{0, 0}, {5, -5}, {-5, 5}, {top, -top}, {-top, top}},
		impl.FnMul: {{0, 0}, {1, 1}, {-1, -1}, {2, 1}, {-2, -1}, {top, 1}, {-top, -1}},
		impl.FnMod: {{0, 0}, {1, 1}, {-1, 1}, {7, 7}, {-7, 7}, {top, top}, {-top, top}},
		impl.FnNot: {{0, 1}, {1, 0}},
	} {
		var from, to []int
		for _, pair := range pairs {
			scalar1(op, scalar(pair[0])).gives(t, scalar(pair[1]))
			from, to = append(from, pair[0]), append(to, pair[1])
		}
		scalar1(op, vector(from...)).gives(t, vector(to...))
	}
	scalar1(impl.FnSub, filled(false, 2, 3)).gives(t, numbers([]int{2, 3}, -1, -2, -3, -4, -5, -6))
	scalar1(impl.FnNot, numbers([]int{2, 2}, 0, 1, 1, 0)).gives(t, numbers([]int{2, 2}, 1, 0, 0, 1))
}

func TestScalar1OnEveryShape(t *testing.T) {
	for _, shape := range shapesUpTo(2) {
		for _, op := range []int{impl.FnAdd, impl.FnSub, impl.FnMul, impl.FnMod, impl.FnNot} {
			for n, want := range map[int][]int{0: {0, 0, 0, 0, 1}, 1: {1, -1, 1, 1, 0}} {
				place := slices.Index([]int{impl.FnAdd, impl.FnSub, impl.FnMul, impl.FnMod, impl.FnNot}, op)
				scalar1(op, full(false, n, shape...)).gives(t, full(false, want[place], shape...))
			}
		}
	}
}

func TestScalar1NotOfOtherNumbers(t *testing.T) {
	for _, n := range []int{-1, 2, 10, 1 << 32, 1<<32 + 1, -1 << 32, top, -top} {
		scalar1(impl.FnNot, scalar(n)).fails(t, impl.ErrDomain)
		for place := range 3 {
			data := []int{0, 1, 0}
			data[place] = n
			scalar1(impl.FnNot, vector(data...)).fails(t, impl.ErrDomain)
		}
	}
}

func TestScalar1WrongOps(t *testing.T) {
	for _, op := range append([]int{4, 5, 6, 8, 9, 10, 11, 12, 13, 14, 15, 16, 18, 19, 20, 32}, slices.DeleteFunc(slices.Clone(wrongOps), func(op int) bool { return op == impl.FnNot })...) {
		for _, a := range []impl.Array{scalar(1), vector(), vector(1, 0), none(2, 0), letter('a'), filled(false, 1, 1, 1, 1, 1)} {
			scalar1(op, a).fails(t, impl.ErrDomain)
		}
	}
}

func TestScalar1OfCharacters(t *testing.T) {
	for op := -1; op <= 34; op++ {
		for _, shape := range shapesUpTo(2) {
			scalar1(op, full(true, 1, shape...)).fails(t, impl.ErrDomain)
		}
	}
}

// results are what an op gives of pairs: a, b and the result.
var results = map[int][][3]int{
	impl.FnAdd: {{2, 3, 5}, {-2, 3, 1}, {0, 0, 0}, {top, 0, top}, {top - 1, 1, top}, {1 - top, -1, -top}, {top, -top, 0}, {-top, 0, -top}, {-1, top, top - 1}},
	impl.FnSub: {{2, 3, -1}, {3, 2, 1}, {0, top, -top}, {0, -top, top}, {top, top, 0}, {-top, -top, 0}, {top - 1, -1, top}, {1 - top, 1, -top}, {-1, -top, top - 1}},
	impl.FnMul: {{2, 3, 6}, {-2, 3, -6}, {-2, -3, 6}, {2, -3, -6}, {0, top, 0}, {-top, 0, 0}, {top, 1, top}, {1, -top, -top}, {-1, top, -top}, {-top, -1, top}, {top / 2, 2, top}, {2, -top / 2, -top},
		{32768, 30517578125, top}, {-30517578125, 32768, -top}, {31622776, 31622776, 999999961946176}, {31622776, -31622777, -999999993568952}, {142857142857142, 7, 999999999999994}},
	impl.FnDiv: {{6, 3, 2}, {-6, 3, -2}, {6, -3, -2}, {-6, -3, 2}, {0, 5, 0}, {0, -5, 0}, {0, 0, 1}, {5, 5, 1}, {5, 1, 5}, {5, -1, -5}, {top, 1, top}, {top, -1, -top}, {-top, -1, top}, {-top, 1, -top}, {top, top, 1}, {-top, top, -1}, {top, 1000, 1000000000000}, {0, top, 0}},
	impl.FnMin: {{2, 3, 2}, {3, 2, 2}, {-2, -3, -3}, {4, 4, 4}, {top, -top, -top}, {-top, top, -top}, {top, top, top}, {0, -1, -1}},
	impl.FnMax: {{2, 3, 3}, {3, 2, 3}, {-2, -3, -2}, {4, 4, 4}, {top, -top, top}, {-top, top, top}, {-top, -top, -top}, {0, -1, 0}},
	impl.FnMod: {{3, 7, 1}, {3, -7, 2}, {-3, 7, -2}, {-3, -7, -1}, {3, 6, 0}, {3, -6, 0}, {-3, 6, 0}, {-3, -6, 0}, {0, 7, 7}, {0, -7, -7}, {0, 0, 0}, {5, 0, 0}, {-5, 0, 0}, {1, 9, 0}, {-1, 9, 0}, {1, -9, 0}, {-1, -9, 0}, {7, 3, 3}, {7, -3, 4}, {-7, 3, -4}, {-7, -3, -3},
		{0, top, top}, {0, -top, -top}, {top, top, 0}, {top, -top, 0}, {-top, top, 0}, {top, -1, top - 1}, {-top, 1, 1 - top}, {top, 1, 1}, {-top, -1, -1}, {2, top, 0}, {3, top, 1}, {3, -top, 2}, {-3, top, -2}, {-3, -top, -1}},
	impl.FnPow: {{2, 10, 1024}, {-2, 3, -8}, {-2, 4, 16}, {3, 0, 1}, {-3, 0, 1}, {3, 1, 3}, {-3, 1, -3}, {0, 0, 1}, {0, 1, 0}, {0, 2, 0}, {0, 3, 0}, {0, top, 0}, {0, top - 1, 0}, {1, 0, 1}, {1, 1, 1}, {1, 2, 1}, {1, top, 1}, {-1, 0, 1}, {-1, 1, -1}, {-1, 2, 1}, {-1, 3, -1}, {-1, 4, 1}, {-1, top, 1}, {-1, top - 1, -1},
		{top, 0, 1}, {-top, 0, 1}, {top, 1, top}, {-top, 1, -top}, {10, 15, top}, {-10, 15, -top}, {-10, 14, 100000000000000}, {100000, 3, top}, {-1000, 5, -top}, {2, 49, 562949953421312}, {-2, 49, -562949953421312}, {3, 31, 617673396283947}, {31622776, 2, 999999961946176}, {-31622776, 2, 999999961946176}},
	impl.FnEq:  {{2, 2, 1}, {2, 3, 0}, {-2, 2, 0}, {0, 0, 1}, {top, top, 1}, {top, -top, 0}, {1, 1<<32 + 1, 0}},
	impl.FnNe:  {{2, 2, 0}, {2, 3, 1}, {-2, 2, 1}, {0, 0, 0}, {top, top, 0}, {top, -top, 1}, {1, 1<<32 + 1, 1}},
	impl.FnLt:  {{2, 3, 1}, {3, 2, 0}, {2, 2, 0}, {-1, 0, 1}, {-top, top, 1}, {top, -top, 0}, {top - 1, top, 1}},
	impl.FnLe:  {{2, 3, 1}, {3, 2, 0}, {2, 2, 1}, {-1, 0, 1}, {-top, top, 1}, {top, -top, 0}, {top, top - 1, 0}},
	impl.FnGe:  {{2, 3, 0}, {3, 2, 1}, {2, 2, 1}, {-1, 0, 0}, {-top, top, 0}, {top, -top, 1}, {top - 1, top, 0}},
	impl.FnGt:  {{2, 3, 0}, {3, 2, 1}, {2, 2, 0}, {-1, 0, 0}, {-top, top, 0}, {top, -top, 1}, {top, top - 1, 1}},
	impl.FnAnd: {{0, 0, 0}, {0, 1, 0}, {1, 0, 0}, {1, 1, 1}},
	impl.FnOr:  {{0, 0, 0}, {0, 1, 1}, {1, 0, 1}, {1, 1, 1}},
}

// refusals are the pairs of which an op has a code: a, b and the code.
var refusals = map[int][][3]int{
	impl.FnAdd: {{top, 1, impl.ErrLimit}, {1, top, impl.ErrLimit}, {-top, -1, impl.ErrLimit}, {-1, -top, impl.ErrLimit}, {top, top, impl.ErrLimit}, {-top, -top, impl.ErrLimit}},
	impl.FnSub: {{top, -1, impl.ErrLimit}, {-1, top, impl.ErrLimit}, {-top, 1, impl.ErrLimit}, {1, -top, impl.ErrLimit}, {top, -top, impl.ErrLimit}, {-top, top, impl.ErrLimit}},
	impl.FnMul: {{top, 2, impl.ErrLimit}, {-2, top, impl.ErrLimit}, {31622777, 31622777, impl.ErrLimit}, {-31622777, 31622777, impl.ErrLimit}, {142857142857143, 7, impl.ErrLimit}, {7, -142857142857143, impl.ErrLimit}, {top, top, impl.ErrLimit}, {-top, -top, impl.ErrLimit}, {top/2 + 1, 2, impl.ErrLimit},
		{1 << 32, 1 << 32, impl.ErrLimit}, {1 << 32, 1<<32 + 1, impl.ErrLimit}, {-1 << 32, 1 << 32, impl.ErrLimit}, {1 << 31, 1 << 32, impl.ErrLimit}, {1 << 49, 1 << 15, impl.ErrLimit}, {1 << 40, 1 << 40, impl.ErrLimit}, {-1 << 49, -1 << 49, impl.ErrLimit}, {6700417, 2753074036095, impl.ErrLimit}, {274177, 67280421310721, impl.ErrLimit}},
	impl.FnDiv: {{7, 2, impl.ErrDomain}, {-7, 2, impl.ErrDomain}, {7, -2, impl.ErrDomain}, {-7, -2, impl.ErrDomain}, {1, 2, impl.ErrDomain}, {-1, 2, impl.ErrDomain}, {5, 0, impl.ErrDomain}, {-5, 0, impl.ErrDomain}, {top, 0, impl.ErrDomain}, {-top, 0, impl.ErrDomain}, {top, 3, impl.ErrDomain}, {top - 1, top, impl.ErrDomain}, {1, -top, impl.ErrDomain}},
	impl.FnPow: {{2, -1, impl.ErrDomain}, {0, -1, impl.ErrDomain}, {1, -1, impl.ErrDomain}, {-1, -1, impl.ErrDomain}, {-1, -2, impl.ErrDomain}, {top, -top, impl.ErrDomain}, {0, -top, impl.ErrDomain}, {1, -top, impl.ErrDomain},
		{2, 50, impl.ErrLimit}, {-2, 50, impl.ErrLimit}, {-2, 51, impl.ErrLimit}, {2, 63, impl.ErrLimit}, {2, 64, impl.ErrLimit}, {2, 65, impl.ErrLimit}, {-2, 64, impl.ErrLimit}, {10, 16, impl.ErrLimit}, {-10, 17, impl.ErrLimit}, {3, 32, impl.ErrLimit}, {31622777, 2, impl.ErrLimit}, {-31622777, 2, impl.ErrLimit}, {1 << 32, 2, impl.ErrLimit}, {1 << 32, 3, impl.ErrLimit}, {top, 2, impl.ErrLimit}, {-top, 3, impl.ErrLimit}, {2, top, impl.ErrLimit}, {-2, top, impl.ErrLimit}, {top, top, impl.ErrLimit}, {-top, top, impl.ErrLimit}, {2, 1 << 32, impl.ErrLimit}},
	impl.FnAnd: {{2, 1, impl.ErrDomain}, {1, 2, impl.ErrDomain}, {0, 2, impl.ErrDomain}, {2, 0, impl.ErrDomain}, {0, -1, impl.ErrDomain}, {-1, 0, impl.ErrDomain}, {1 << 32, 0, impl.ErrDomain}, {1, top, impl.ErrDomain}, {-top, 1, impl.ErrDomain}},
	impl.FnOr:  {{2, 1, impl.ErrDomain}, {1, 2, impl.ErrDomain}, {0, 2, impl.ErrDomain}, {2, 0, impl.ErrDomain}, {1, -1, impl.ErrDomain}, {-1, 1, impl.ErrDomain}, {1<<32 + 1, 1, impl.ErrDomain}, {0, top, impl.ErrDomain}, {-top, 0, impl.ErrDomain}},
}

func TestScalar2Results(t *testing.T) {
	for _, op := range everyOp {
		if len(results[op]) == 0 {
			t.Fatalf("op %d has no row", op)
		}
		var a, b, want []int
		for _, row := range results[op] {
			scalar2(op, scalar(row[0]), scalar(row[1])).gives(t, scalar(row[2]))
			a, b, want = append(a, row[0]), append(b, row[1]), append(want, row[2])
		}
		scalar2(op, vector(a...), vector(b...)).gives(t, vector(want...))
	}
}

func TestScalar2Refusals(t *testing.T) {
	for op, rows := range refusals {
		for _, row := range rows {
			scalar2(op, scalar(row[0]), scalar(row[1])).fails(t, row[2])
			scalar2(op, scalar(row[0]), vector(1, row[1], 1)).fails(t, row[2])
			outer(op, vector(row[0]), vector(row[1])).fails(t, row[2])
			fold(op, vector(row[0], row[1]), false).fails(t, row[2])
			scan(op, vector(row[0], row[1]), true).fails(t, row[2])
			inner(impl.FnMax, op, vector(row[0]), vector(row[1])).fails(t, row[2])
		}
	}
}

// TestScalar2FirstCode has a code of each kind, in both orders and at each place.
func TestScalar2FirstCode(t *testing.T) {
	limit, domain := [2]int{10, 16}, [2]int{10, -1}
	for first := range 4 {
		for second := first + 1; second < 5; second++ {
			a, b := []int{2, 2, 2, 2, 2}, []int{3, 3, 3, 3, 3}
			a[first], b[first], a[second], b[second] = limit[0], limit[1], domain[0], domain[1]
			scalar2(impl.FnPow, vector(a...), vector(b...)).fails(t, impl.ErrLimit)
			scalar2(impl.FnPow, numbers([]int{5, 1}, a...), numbers([]int{5, 1}, b...)).fails(t, impl.ErrLimit)
			scalar2(impl.FnPow, scalar(10), vector(b...)).fails(t, impl.ErrLimit)
			a[first], b[first], a[second], b[second] = domain[0], domain[1], limit[0], limit[1]
			scalar2(impl.FnPow, vector(a...), vector(b...)).fails(t, impl.ErrDomain)
			scalar2(impl.FnPow, numbers([]int{1, 5, 1}, a...), numbers([]int{1, 5, 1}, b...)).fails(t, impl.ErrDomain)
			scalar2(impl.FnPow, scalar(10), vector(b...)).fails(t, impl.ErrDomain)
		}
	}
}

func TestScalar2OneElement(t *testing.T) {
	for left := range impl.MaxRank + 1 {
		for right := range impl.MaxRank + 1 {
			a, b := full(false, 7, ones(left)...), full(false, 5, ones(right)...)
			shape := ones(max(left, right))
			scalar2(impl.FnSub, a, b).gives(t, numbers(shape, 2))
			scalar2(impl.FnSub, b, a).gives(t, numbers(shape, -2))
			scalar2(impl.FnEq, full(true, 'x', ones(left)...), full(true, 'x', ones(right)...)).gives(t, numbers(shape, 1))
			scalar2(impl.FnAdd, full(true, 'x', ones(left)...), b).fails(t, impl.ErrDomain)
			scalar2(impl.FnMul, full(false, top, ones(left)...), b).fails(t, impl.ErrLimit)
		}
	}
}

func TestScalar2Extended(t *testing.T) {
	for _, shape := range shapesUpTo(2) {
		many := full(false, 7, shape...)
		if len(many.Data) == 1 {
			continue
		}
		for rank := range impl.MaxRank + 1 {
			one := full(false, 5, ones(rank)...)
			scalar2(impl.FnSub, many, one).gives(t, full(false, 2, shape...))
			scalar2(impl.FnSub, one, many).gives(t, full(false, -2, shape...))
			scalar2(impl.FnNe, full(true, 'y', ones(rank)...), full(true, 'x', shape...)).gives(t, full(false, 1, shape...))
		}
	}
	scalar2(impl.FnSub, scalar(10), filled(false, 2, 3)).gives(t, numbers([]int{2, 3}, 9, 8, 7, 6, 5, 4))
	scalar2(impl.FnSub, filled(false, 2, 3), numbers([]int{1, 1, 1}, 10)).gives(t, numbers([]int{2, 3}, -9, -8, -7, -6, -5, -4))
}

func TestScalar2OfAnArrayWithoutElementsAndOne(t *testing.T) {
	for _, op := range everyOp {
		for _, shape := range shapesUpTo(2) {
			if !slices.Contains(shape, 0) {
				continue
			}
			for rank := range impl.MaxRank + 1 {
				for _, n := range []int{0, 1, -1, 2, top} {
					scalar2(op, none(shape...), full(false, n, ones(rank)...)).gives(t, none(shape...))
					scalar2(op, full(false, n, ones(rank)...), none(shape...)).gives(t, none(shape...))
				}
				scalar2(op, none(shape...), none(shape...)).gives(t, none(shape...))
				// Characters are refused even where there are none.
				for _, c := range []call{
					scalar2(op, noLetter(shape...), full(false, 1, ones(rank)...)), scalar2(op, full(true, 'a', ones(rank)...), none(shape...)), scalar2(op, noLetter(shape...), full(true, 'a', ones(rank)...)),
					scalar2(op, noLetter(shape...), none(shape...)), scalar2(op, none(shape...), noLetter(shape...)), scalar2(op, noLetter(shape...), noLetter(shape...)),
				} {
					if op == impl.FnEq || op == impl.FnNe {
						c.gives(t, none(shape...))
					} else {
						c.fails(t, impl.ErrDomain)
					}
				}
			}
		}
	}
}

func TestScalar2RanksAndShapes(t *testing.T) {
	shapes := [][]int{{2}, {3}, {0}, {2, 1}, {1, 2}, {2, 2}, {0, 2}, {2, 0}, {0, 0}, {1, 0}, {2, 1, 1}, {1, 2, 1}, {1, 1, 2}, {2, 3, 4}, {4, 3, 2}, {1, 0, 1, 1}, {1, 1, 1, 2}, {1, 1, 1, 1, 2}, {2, 1, 1, 1, 1}, {0, 0, 0, 0, 0}}
	for i, left := range shapes {
		for j, right := range shapes {
			for _, op := range everyOp {
				a, b := full(false, 1, left...), full(false, 1, right...)
				switch {
				case i == j:
					one, _ := impl.Scalar2(op, scalar(1), scalar(1))
					scalar2(op, a, b).gives(t, full(false, one.Data[0], left...))
					continue
				case len(left) != len(right):
					scalar2(op, a, b).fails(t, impl.ErrRank)
				default:
					scalar2(op, a, b).fails(t, impl.ErrLength)
				}
				// The shapes are asked ahead of characters and of the elements.
				code := impl.ErrLength
				if len(left) != len(right) {
					code = impl.ErrRank
				}
				scalar2(op, full(true, 1, left...), b).fails(t, code)
				scalar2(op, a, full(true, 1, right...)).fails(t, code)
				scalar2(op, full(true, 1, left...), full(true, 1, right...)).fails(t, code)
				scalar2(op, full(false, top, left...), full(false, -top, right...)).fails(t, code)
			}
		}
	}
}

func TestScalar2OrderOfCodes(t *testing.T) {
	bad := numbers([]int{2}, 1)
	scalar2(0, vector(1, 2), vector(1, 2, 3)).fails(t, impl.ErrDomain)
	scalar2(17, vector(1, 2), filled(false, 2, 2)).fails(t, impl.ErrDomain)
	scalar2(impl.FnAdd, bad, filled(false, 2, 2)).fails(t, impl.ErrDomain)
	scalar2(impl.FnAdd, filled(false, 2, 2), bad).fails(t, impl.ErrDomain)
	scalar2(impl.FnAdd, bad, vector(1, 2, 3)).fails(t, impl.ErrDomain)
	scalar2(impl.FnAdd, numbers([]int{2}, top+1, 1), vector(1, 2, 3)).fails(t, impl.ErrDomain)
	scalar2(impl.FnPow, letters("ab"), vector(1, 2, 3)).fails(t, impl.ErrLength)
	scalar2(impl.FnPow, letters("ab"), filled(false, 2, 2)).fails(t, impl.ErrRank)
	scalar2(impl.FnPow, letters("ab"), vector(99, 99)).fails(t, impl.ErrDomain)
	scalar2(impl.FnMul, vector(top, top), letters("ab")).fails(t, impl.ErrDomain)
	scalar2(impl.FnMul, vector(top, top), letter('b')).fails(t, impl.ErrDomain)
}

func TestScalar2OfCharacters(t *testing.T) {
	for _, op := range everyOp {
		for _, shape := range [][]int{{}, {1}, {3}, {2, 2}, {1, 1, 1}, {1, 2, 1, 2, 1}} {
			text, nums := filled(true, shape...), filled(true, shape...)
			nums.Char = false
			for _, c := range []call{scalar2(op, text, nums), scalar2(op, nums, text), scalar2(op, text, scalar(97)), scalar2(op, letter('a'), nums)} {
				switch op {
				case impl.FnEq:
					c.gives(t, full(false, 0, shape...))
				case impl.FnNe:
					c.gives(t, full(false, 1, shape...))
				default:
					c.fails(t, impl.ErrDomain)
				}
			}
			if op != impl.FnEq && op != impl.FnNe {
				scalar2(op, text, text).fails(t, impl.ErrDomain)
				scalar2(op, text, letter('a')).fails(t, impl.ErrDomain)
			}
		}
	}
	scalar2(impl.FnEq, letters("abca"), letters("acba")).gives(t, vector(1, 0, 0, 1))
	scalar2(impl.FnNe, letters("abca"), letters("acba")).gives(t, vector(0, 1, 1, 0))
	scalar2(impl.FnEq, letters("abca"), letter('a')).gives(t, vector(1, 0, 0, 1))
	scalar2(impl.FnNe, letter('a'), characters([]int{2, 2}, "a⍵😀a")).gives(t, numbers([]int{2, 2}, 0, 1, 1, 0))
}

// TestScalar2OfOneArrayTwice hands in the same lists on both sides.
func TestScalar2OfOneArrayTwice(t *testing.T) {
	a := copyArray(filled(false, 2, 2))
	for _, run := range []func() (impl.Array, int){
		func() (impl.Array, int) { return impl.Scalar2(impl.FnMul, a, a) }, func() (impl.Array, int) { return impl.Outer(impl.FnMul, a, a) }, func() (impl.Array, int) { return impl.Inner(impl.FnAdd, impl.FnMul, a, a) },
	} {
		got, code := run()
		if code != 0 || !isUntouched(a, filled(false, 2, 2)) {
			t.Errorf("code %d", code)
		}
		writeOver(got.Data)
		writeOver(got.Shape)
		if !isUntouched(a, filled(false, 2, 2)) {
			t.Error("the answer shares memory with the argument")
		}
	}
}

func TestScalar2GreatestArrays(t *testing.T) {
	for _, shape := range [][]int{{10000}, {100, 100}, {1, 10000}, {10, 10, 10, 10}, {10, 10, 10, 5, 2}} {
		scalar2(impl.FnSub, full(false, 9, shape...), full(false, 4, shape...)).gives(t, full(false, 5, shape...))
		scalar2(impl.FnSub, scalar(9), full(false, 4, shape...)).gives(t, full(false, 5, shape...))
		scalar1(impl.FnSub, full(false, 4, shape...)).gives(t, full(false, -4, shape...))
	}
}
