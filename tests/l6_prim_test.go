package tests

import (
	"slices"
	"testing"

	"loop.example/s02542/impl"
)

// Those ops of 1 .. 33 that are no functions of one, or of two arguments.
var notMonads = []int{impl.FnDiv, impl.FnMin, impl.FnMax, impl.FnPow, impl.FnEq, impl.FnNe, impl.FnLt, impl.FnLe, impl.FnGe, impl.FnGt, impl.FnAnd, impl.FnOr, impl.FnDrop, impl.FnRep, impl.FnRepF, impl.FnDec, impl.FnEnc}
var notDyads = []int{impl.FnNot, impl.FnUp, impl.FnDown, impl.FnTally}

func TestMonadScalarFunctions(t *testing.T) {
	for _, op := range []int{impl.FnAdd, impl.FnSub, impl.FnMul, impl.FnMod, impl.FnNot} {
		for _, a := range append(manyArrays(), vector(0, 1, 1), vector(-3, 0, 5), vector(top, -top), full(false, 0, 2, 2), scalar(1), scalar(-7)) {
			monad(op, a).answersLike(t, scalar1(op, a))
			if a.Char {
				monad(op, a).fails(t, impl.ErrDomain)
			}
		}
	}
	monad(impl.FnAdd, vector(-3, 0, 5)).gives(t, vector(-3, 0, 5))
	monad(impl.FnSub, vector(-3, 0, 5)).gives(t, vector(3, 0, -5))
	monad(impl.FnMul, vector(-3, 0, 5)).gives(t, vector(-1, 0, 1))
	monad(impl.FnMod, vector(-3, 0, 5)).gives(t, vector(3, 0, 5))
	monad(impl.FnNot, vector(1, 0)).gives(t, vector(0, 1))
	monad(impl.FnNot, vector(1, 2)).fails(t, impl.ErrDomain)
}

func TestMonadShapeAndTally(t *testing.T) {
	for _, a := range append(manyArrays(), upTo(10000), none(10000, 0), none(0, 10000), filled(true, 100, 100)) {
		monad(impl.FnRho, a).gives(t, vector(a.Shape...))
		tally := 1
		if len(a.Shape) > 0 {
			tally = a.Shape[0]
		}
		monad(impl.FnTally, a).gives(t, scalar(tally))
	}
	for _, a := range []impl.Array{scalar(7), letter('a')} {
		monad(impl.FnRho, a).gives(t, none(0))
		monad(impl.FnTally, a).gives(t, scalar(1))
	}
	monad(impl.FnRho, filled(true, 2, 3)).gives(t, vector(2, 3))
	monad(impl.FnTally, filled(true, 2, 3)).gives(t, scalar(2))
	monad(impl.FnTally, none(0, 3)).gives(t, scalar(0))
	monad(impl.FnTally, none(3, 0)).gives(t, scalar(3))
}

func TestMonadNumbersUpTo(t *testing.T) {
	for _, n := range []int{0, 1, 2, 3, 100, 9999, impl.MaxCells} {
		for rank := range impl.MaxRank + 1 {
			monad(impl.FnIota, full(false, n, ones(rank)...)).gives(t, upTo(n))
		}
	}
	for rank := range impl.MaxRank + 1 {
		for _, n := range []int{impl.MaxCells + 1, impl.MaxCells + 2, 1 << 31, 1 << 32, 1<<32 + 3, top} {
			monad(impl.FnIota, full(false, n, ones(rank)...)).fails(t, impl.ErrLimit)
		}
		for _, n := range []int{-1, -2, -impl.MaxCells, -1 << 32, -top} {
			monad(impl.FnIota, full(false, n, ones(rank)...)).fails(t, impl.ErrDomain)
		}
		for _, n := range []int{0, 3, impl.MaxCells + 1} {
			monad(impl.FnIota, full(true, n, ones(rank)...)).fails(t, impl.ErrDomain)
		}
	}
	// ErrLength comes ahead of the kind and of what the numbers are.
	for _, shape := range shapesUpTo(2) {
		if a := full(false, 3, shape...); len(a.Data) != 1 {
			for _, n := range []int{3, -1, impl.MaxCells + 1} {
				monad(impl.FnIota, full(false, n, shape...)).fails(t, impl.ErrLength)
			}
			monad(impl.FnIota, full(true, 3, shape...)).fails(t, impl.ErrLength)
		}
	}
	monad(impl.FnIota, vector()).fails(t, impl.ErrLength)
	monad(impl.FnIota, vector(1, 2)).fails(t, impl.ErrLength)
}

func TestMonadElements(t *testing.T) {
	for _, a := range append(manyArrays(), upTo(10000), filled(true, 10, 10, 10, 5, 2), none(10000, 0)) {
		for _, op := range []int{impl.FnCat, impl.FnIn} {
			monad(op, a).gives(t, impl.Array{Char: a.Char, Shape: []int{len(a.Data)}, Data: a.Data})
		}
	}
	monad(impl.FnCat, scalar(7)).gives(t, vector(7))
	monad(impl.FnIn, letter('a')).gives(t, letters("a"))
	monad(impl.FnCat, filled(false, 2, 3)).gives(t, upTo(6))
	monad(impl.FnIn, noLetter(2, 0, 2)).gives(t, noLetter(0))
}

// reversedAgain turns round, by places counted in all of the data, the stretches along the last axis or the order of those along the first.
func reversedAgain(a impl.Array, first bool) impl.Array {
	if len(a.Data) == 0 || len(a.Shape) == 0 {
		return a
	}
	size := a.Shape[len(a.Shape)-1]
	if first {
		size = len(a.Data) / a.Shape[0]
	}
	result := impl.Array{Char: a.Char, Shape: a.Shape}
	for stretch := range slices.Chunk(a.Data, size) {
		if first {
			result.Data = slices.Concat(stretch, result.Data)
			continue
		}
		for _, n := range slices.Backward(stretch) {
			result.Data = append(result.Data, n)
		}
	}
	return result
}

func TestMonadReverse(t *testing.T) {
	for _, a := range append(manyArrays(), upTo(10000), filled(true, 100, 100), none(10000, 0)) {
		monad(impl.FnRev, a).gives(t, reversedAgain(a, false))
		monad(impl.FnRevF, a).gives(t, reversedAgain(a, true))
	}
	for _, op := range []int{impl.FnRev, impl.FnRevF} {
		monad(op, scalar(7)).gives(t, scalar(7))
		monad(op, letter('a')).gives(t, letter('a'))
		monad(op, letters("abc")).gives(t, letters("cba"))
		monad(op, vector(1, 2, 3, 4)).gives(t, vector(4, 3, 2, 1))
		monad(op, vector()).gives(t, vector())
		monad(op, noLetter(2, 0)).gives(t, noLetter(2, 0))
	}
	table := filled(false, 2, 3)
	monad(impl.FnRev, table).gives(t, numbers([]int{2, 3}, 3, 2, 1, 6, 5, 4))
	monad(impl.FnRevF, table).gives(t, numbers([]int{2, 3}, 4, 5, 6, 1, 2, 3))
	monad(impl.FnRev, filled(false, 2, 2, 2)).gives(t, numbers([]int{2, 2, 2}, 2, 1, 4, 3, 6, 5, 8, 7))
	monad(impl.FnRevF, filled(false, 2, 2, 2)).gives(t, numbers([]int{2, 2, 2}, 5, 6, 7, 8, 1, 2, 3, 4))
	monad(impl.FnRev, filled(false, 3, 1)).gives(t, filled(false, 3, 1))
	monad(impl.FnRevF, filled(false, 1, 3)).gives(t, filled(false, 1, 3))
}

// turnedAgain writes each element where the index that is turned round has it.
func turnedAgain(a impl.Array) impl.Array {
	shape := slices.Clone(a.Shape)
	slices.Reverse(shape)
	result := full(a.Char, 0, shape...)
	for i, index := range indexesOf(shape) {
		slices.Reverse(index)
		result.Data[i] = elementAt(a, index)
	}
	return result
}

func TestMonadTurn(t *testing.T) {
	for _, a := range append(manyArrays(), filled(true, 100, 100), filled(false, 10, 10, 10, 5, 2), none(10000, 0)) {
		monad(impl.FnTurn, a).gives(t, turnedAgain(a))
	}
	for _, a := range []impl.Array{scalar(7), letter('a'), vector(), upTo(5), letters("abc")} {
		monad(impl.FnTurn, a).gives(t, a)
	}
	monad(impl.FnTurn, filled(false, 2, 3)).gives(t, numbers([]int{3, 2}, 1, 4, 2, 5, 3, 6))
	monad(impl.FnTurn, filled(false, 1, 2, 3)).gives(t, numbers([]int{3, 2, 1}, 1, 4, 2, 5, 3, 6))
	monad(impl.FnTurn, noLetter(2, 0, 4)).gives(t, noLetter(4, 0, 2))
}

func TestMonadFirstElement(t *testing.T) {
	for _, a := range manyArrays() {
		want := fillAgain(a)
		if len(a.Data) > 0 {
			a.Data[0] = 50
			want = 50
		}
		monad(impl.FnTake, a).gives(t, full(a.Char, want))
	}
	monad(impl.FnTake, none(0)).gives(t, scalar(0))
	monad(impl.FnTake, noLetter(0)).gives(t, letter(' '))
	monad(impl.FnTake, noLetter(3, 0, 2)).gives(t, letter(' '))
	monad(impl.FnTake, vector(-top, 5)).gives(t, scalar(-top))
	monad(impl.FnTake, letter('⍴')).gives(t, letter('⍴'))
}

func TestMonadGrade(t *testing.T) {
	for _, a := range append(manyArrays(), vector(3, 1, 2, 3, 1), letters("banana"), vector(), noLetter(0)) {
		monad(impl.FnUp, a).answersLike(t, grade(a, false))
		monad(impl.FnDown, a).answersLike(t, grade(a, true))
		if len(a.Shape) != 1 {
			monad(impl.FnUp, a).fails(t, impl.ErrRank)
			monad(impl.FnDown, a).fails(t, impl.ErrRank)
		}
	}
	monad(impl.FnUp, vector(3, 1, 2, 3)).gives(t, vector(2, 3, 1, 4))
	monad(impl.FnDown, vector(3, 1, 2, 3)).gives(t, vector(1, 4, 3, 2))
}

func TestMonadOpsOfTwoArguments(t *testing.T) {
	for _, op := range notMonads {
		for _, a := range manyArrays() {
			monad(op, a).fails(t, impl.ErrSyntax)
		}
		monad(op, letters("ab")).fails(t, impl.ErrSyntax)
		monad(op, upTo(10000)).fails(t, impl.ErrSyntax)
	}
}

// meantBy is the call that Dyad stands for.
func meantBy(op int, a impl.Array, b impl.Array) call {
	switch op {
	case impl.FnRho:
		return reshape(a, b)
	case impl.FnIota:
		return find(a, b)
	case impl.FnCat:
		return catenate(a, b)
	case impl.FnRev:
		return rotate(a, b, false)
	case impl.FnRevF:
		return rotate(a, b, true)
	case impl.FnTurn:
		return transpose(a, b)
	case impl.FnTake:
		return take(a, b)
	case impl.FnDrop:
		return drop(a, b)
	case impl.FnIn:
		return member(a, b)
	case impl.FnRep:
		return replicate(a, b, false)
	case impl.FnRepF:
		return replicate(a, b, true)
	case impl.FnDec:
		return decode(a, b)
	case impl.FnEnc:
		return encode(a, b)
	}
	return scalar2(op, a, b)
}

// TestDyadIsTheFunctionItStandsFor has arguments for which each function has a result, and each of its codes.
func TestDyadIsTheFunctionItStandsFor(t *testing.T) {
	lists := []impl.Array{
		scalar(0), scalar(1), scalar(2), scalar(-1), scalar(10001), vector(), vector(1), vector(2), vector(-1), vector(2, 1), vector(1, 2), vector(0, 2), vector(1, -1), vector(1, 2, 3), vector(3, 1, 2), vector(1, 1, 1), vector(100, 101), vector(1, 1, 1, 1, 1, 1),
		letter('a'), letters("ab"), noLetter(0), filled(false, 2, 2), filled(false, 2, 3), filled(true, 2, 3), none(0, 2), filled(false, 1, 1, 1, 1, 1), filled(false, 2, 1, 2), vector(top, top), vector(-top, 2), upTo(10000),
	}
	for op := impl.FnAdd; op <= greatestOp; op++ {
		codes := map[int]int{}
		for _, a := range lists {
			for _, b := range lists {
				if slices.Contains(notDyads, op) {
					dyad(op, a, b).fails(t, impl.ErrSyntax)
					continue
				}
				dyad(op, a, b).answersLike(t, meantBy(op, a, b))
				_, code := dyad(op, a, b).answer(t)
				codes[code]++
			}
		}
		if !slices.Contains(notDyads, op) && codes[0] < 20 {
			t.Errorf("op %d had a result %d times only", op, codes[0])
		}
		if codes[impl.ErrSyntax] > 0 {
			t.Errorf("op %d had the code ErrSyntax", op)
		}
	}
}

// TestDyadOnEveryRank has arrays with and without elements on either side, of either kind.
func TestDyadOnEveryRank(t *testing.T) {
	for _, shape := range append(shapesUpTo(1), []int{2, 3}, []int{3, 2, 2}, []int{2, 1, 3, 2}, []int{2, 2, 1, 2, 3}) {
		for _, a := range both(shape...) {
			for _, b := range []impl.Array{scalar(1), letter('a'), vector(), upTo(2), letters("ab"), upTo(len(shape)), ofOnes(len(shape)), a} {
				for op := impl.FnAdd; op <= greatestOp; op++ {
					if !slices.Contains(notDyads, op) {
						dyad(op, a, b).answersLike(t, meantBy(op, a, b))
						dyad(op, b, a).answersLike(t, meantBy(op, b, a))
					}
				}
			}
		}
	}
}

// TestDyad tells the functions apart whose arguments are alike.
func TestDyad(t *testing.T) {
	table := filled(false, 2, 3)
	dyad(impl.FnSub, scalar(10), vector(3, 4)).gives(t, vector(7, 6))
	dyad(impl.FnOr, vector(0, 1), scalar(0)).gives(t, vector(0, 1))
	dyad(impl.FnRho, vector(3), table).gives(t, upTo(3))
	dyad(impl.FnIota, vector(4, 5), scalar(5)).gives(t, scalar(2))
	dyad(impl.FnIn, vector(4, 5), scalar(5)).gives(t, vector(0, 1))
	dyad(impl.FnCat, vector(4, 5), scalar(5)).gives(t, vector(4, 5, 5))
	dyad(impl.FnRev, scalar(1), table).gives(t, numbers([]int{2, 3}, 2, 3, 1, 5, 6, 4))
	dyad(impl.FnRevF, scalar(1), table).gives(t, numbers([]int{2, 3}, 4, 5, 6, 1, 2, 3))
	dyad(impl.FnTurn, vector(2, 1), table).gives(t, numbers([]int{3, 2}, 1, 4, 2, 5, 3, 6))
	dyad(impl.FnTake, vector(1, 2), table).gives(t, numbers([]int{1, 2}, 1, 2))
	dyad(impl.FnDrop, vector(1, 2), table).gives(t, numbers([]int{1, 1}, 6))
	dyad(impl.FnRep, vector(1, 0, 1), table).gives(t, numbers([]int{2, 2}, 1, 3, 4, 6))
	dyad(impl.FnRepF, vector(1, 0), table).gives(t, numbers([]int{1, 3}, 1, 2, 3))
	dyad(impl.FnRepF, vector(1, 0, 1), table).fails(t, impl.ErrLength)
	dyad(impl.FnDec, vector(10, 20), vector(3, 4)).gives(t, scalar(64))
	dyad(impl.FnEnc, vector(10, 20), vector(64)).gives(t, numbers([]int{2, 1}, 3, 4))
}

func TestDyadOpsOfOneArgument(t *testing.T) {
	for _, op := range notDyads {
		for _, a := range manyArrays() {
			for _, b := range []impl.Array{a, scalar(1), letters("ab"), none(0, 0)} {
				dyad(op, a, b).fails(t, impl.ErrSyntax)
				dyad(op, b, a).fails(t, impl.ErrSyntax)
			}
		}
	}
}

// TestEveryOpIsOfOneOrOfTwoArguments has each op of 1 .. 33 in at least one of them.
func TestEveryOpIsOfOneOrOfTwoArguments(t *testing.T) {
	for op := impl.FnAdd; op <= greatestOp; op++ {
		_, one := monad(op, vector(1)).answer(t)
		_, two := dyad(op, vector(1), vector(1)).answer(t)
		if (one == impl.ErrSyntax) != slices.Contains(notMonads, op) || (two == impl.ErrSyntax) != slices.Contains(notDyads, op) {
			t.Errorf("op %d: code %d of one argument, %d of two", op, one, two)
		}
		if one != 0 && one != impl.ErrSyntax || two != 0 && two != impl.ErrSyntax {
			t.Errorf("op %d: code %d of one argument, %d of two", op, one, two)
		}
	}
}
