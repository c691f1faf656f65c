package tests

import (
	"math/big"
	"math/rand/v2"
	"slices"
	"testing"

	"loop.example/s02542/impl"
)

// gradeAgain counts for each element those that come ahead of it.
func gradeAgain(a impl.Array, down bool) (impl.Array, int) {
	if !areArrays(a) {
		return impl.Array{}, impl.ErrDomain
	}
	if len(a.Shape) != 1 {
		return impl.Array{}, impl.ErrRank
	}
	places := full(false, 0, len(a.Data))
	for i, n := range a.Data {
		ahead := 0
		for j, other := range a.Data {
			if other == n && j < i || other < n && !down || other > n && down {
				ahead++
			}
		}
		places.Data[ahead] = i + 1
	}
	return places, 0
}

func firstPlaceAgain(n int, isChar bool, among impl.Array) int {
	for i, other := range among.Data {
		if other == n && among.Char == isChar {
			return i + 1
		}
	}
	return len(among.Data) + 1
}

func findAgain(a impl.Array, b impl.Array) (impl.Array, int) {
	if !areArrays(a, b) {
		return impl.Array{}, impl.ErrDomain
	}
	if len(a.Shape) != 1 {
		return impl.Array{}, impl.ErrRank
	}
	return arrayAgain(b.Shape, func(index []int) (int, int) {
		return firstPlaceAgain(elementAt(b, index), b.Char, a), 0
	})
}

func memberAgain(a impl.Array, b impl.Array) (impl.Array, int) {
	if !areArrays(a, b) {
		return impl.Array{}, impl.ErrDomain
	}
	return arrayAgain(a.Shape, func(index []int) (int, int) {
		if firstPlaceAgain(elementAt(a, index), a.Char, b) > len(b.Data) {
			return 0, 0
		}
		return 1, 0
	})
}

func replicateAgain(k impl.Array, a impl.Array, first bool) (impl.Array, int) {
	if code := listCodeAgain(k, a); code != 0 {
		return impl.Array{}, code
	}
	if len(a.Shape) == 0 {
		a = full(a.Char, a.Data[0], 1)
	}
	axis := axisPlace(a, first)
	times, numbers := k.Data, numbersFrom0(a.Shape[axis])
	if len(times) == 1 {
		times = slices.Repeat(times, len(numbers))
	} else if len(numbers) == 1 {
		numbers = slices.Repeat(numbers, len(times))
	}
	if len(times) != len(numbers) {
		return impl.Array{}, impl.ErrLength
	}
	if len(k.Data) > 0 && slices.Min(k.Data) < 0 {
		return impl.Array{}, impl.ErrDomain
	}
	sum := new(big.Int)
	for _, n := range times {
		sum.Add(sum, big.NewInt(int64(n)))
	}
	if sum.Cmp(big.NewInt(10000)) > 0 || noArrayHas(replacedAt(a.Shape, axis, int(sum.Int64()))) {
		return impl.Array{}, impl.ErrLimit
	}
	var lists [][]int
	for _, length := range a.Shape {
		lists = append(lists, numbersFrom0(length))
	}
	lists[axis] = nil
	for i, n := range times {
		for range n {
			lists[axis] = append(lists[axis], numbers[i])
		}
	}
	return alongLists(a, lists)
}

func decodeAgain(a impl.Array, b impl.Array) (impl.Array, int) {
	for _, code := range []int{listCodeAgain(a, b), listCodeAgain(b, a)} {
		if code != 0 {
			return impl.Array{}, code
		}
	}
	bases, digits := a.Data, b.Data
	if len(bases) == 1 {
		bases = slices.Repeat(bases, len(digits))
	} else if len(digits) == 1 {
		digits = slices.Repeat(digits, len(bases))
	}
	if len(bases) != len(digits) {
		return impl.Array{}, impl.ErrLength
	}
	value, bound := new(big.Int), big.NewInt(1000000000000000)
	for i, base := range bases {
		value.Mul(value, big.NewInt(int64(base)))
		if value.CmpAbs(bound) > 0 {
			return impl.Array{}, impl.ErrLimit
		}
		value.Add(value, big.NewInt(int64(digits[i])))
		if value.CmpAbs(bound) > 0 {
			return impl.Array{}, impl.ErrLimit
		}
	}
	return scalar(int(value.Int64())), 0
}

func encodeAgain(a impl.Array, b impl.Array) (impl.Array, int) {
	if code := listCodeAgain(a, b); code != 0 {
		return impl.Array{}, code
	}
	if len(a.Data) > 0 && slices.Min(a.Data) < 0 || b.Char {
		return impl.Array{}, impl.ErrDomain
	}
	shape := slices.Concat(a.Shape, b.Shape)
	if noArrayHas(shape) {
		return impl.Array{}, impl.ErrLimit
	}
	return arrayAgain(shape, func(index []int) (int, int) {
		// A digit hangs on what the bases behind its own leave.
		left := big.NewInt(int64(elementAt(b, index[len(a.Shape):])))
		place := 0
		if len(a.Shape) == 1 {
			place = index[0]
		}
		for _, base := range slices.Backward(a.Data[place+1:]) {
			left = quotientAgain(left, base)
		}
		if a.Data[place] == 0 {
			return int(left.Int64()), 0
		}
		return int(new(big.Int).Mod(left, big.NewInt(int64(a.Data[place]))).Int64()), 0
	})
}

// quotientAgain is rounded down, as Euclid's is for what is above 0.
func quotientAgain(left *big.Int, base int) *big.Int {
	if base == 0 {
		return new(big.Int)
	}
	return new(big.Int).Div(left, big.NewInt(int64(base)))
}

func monadAgain(op int, a impl.Array) (impl.Array, int) {
	if op < 1 || op > 33 || !areArrays(a) {
		return impl.Array{}, impl.ErrDomain
	}
	switch op {
	case impl.FnAdd, impl.FnSub, impl.FnMul, impl.FnMod, impl.FnNot:
		return scalar1Again(op, a)
	case impl.FnRho:
		return vector(a.Shape...), 0
	case impl.FnIota:
		return numbersAgain(a)
	case impl.FnCat, impl.FnIn:
		return impl.Array{Char: a.Char, Shape: []int{len(a.Data)}, Data: a.Data}, 0
	case impl.FnRev, impl.FnRevF:
		return reversedAgain(a, op == impl.FnRevF), 0
	case impl.FnTurn:
		return turnedAgain(a), 0
	case impl.FnTake:
		return full(a.Char, append(slices.Clone(a.Data), fillAgain(a))[0]), 0
	case impl.FnUp, impl.FnDown:
		return gradeAgain(a, op == impl.FnDown)
	case impl.FnTally:
		return scalar(append(slices.Clone(a.Shape), 1)[0]), 0
	}
	return impl.Array{}, impl.ErrSyntax
}

func numbersAgain(a impl.Array) (impl.Array, int) {
	if len(a.Data) != 1 {
		return impl.Array{}, impl.ErrLength
	}
	if a.Char || a.Data[0] < 0 {
		return impl.Array{}, impl.ErrDomain
	}
	if a.Data[0] >= 10001 {
		return impl.Array{}, impl.ErrLimit
	}
	return upTo(a.Data[0]), 0
}

func dyadAgain(op int, a impl.Array, b impl.Array) (impl.Array, int) {
	if op < 1 || op > 33 || !areArrays(a, b) {
		return impl.Array{}, impl.ErrDomain
	}
	if op <= 16 {
		return scalar2Again(op, a, b)
	}
	switch op {
	case impl.FnRho:
		return reshapeAgain(a, b)
	case impl.FnIota:
		return findAgain(a, b)
	case impl.FnCat:
		return catenateAgain(a, b)
	case impl.FnRev, impl.FnRevF:
		return rotateAgain(a, b, op == impl.FnRevF)
	case impl.FnTurn:
		return transposeAgain(a, b)
	case impl.FnTake:
		return takeAgain(a, b)
	case impl.FnDrop:
		return dropAgain(a, b)
	case impl.FnIn:
		return memberAgain(a, b)
	case impl.FnRep, impl.FnRepF:
		return replicateAgain(a, b, op == impl.FnRepF)
	case impl.FnDec:
		return decodeAgain(a, b)
	case impl.FnEnc:
		return encodeAgain(a, b)
	}
	return impl.Array{}, impl.ErrSyntax
}

// checkPrimitives asks all functions of this chapter of two arrays, and gives back the codes.
func checkPrimitives(t *testing.T, op int, a impl.Array, b impl.Array, other bool) []int {
	t.Helper()
	var codes []int
	check := func(c call, want impl.Array, code int) {
		t.Helper()
		codes = append(codes, c.agrees(t, want, code))
	}
	want, code := gradeAgain(a, other)
	check(grade(a, other), want, code)
	want, code = findAgain(a, b)
	check(find(a, b), want, code)
	want, code = memberAgain(a, b)
	check(member(a, b), want, code)
	want, code = replicateAgain(a, b, other)
	check(replicate(a, b, other), want, code)
	want, code = decodeAgain(a, b)
	check(decode(a, b), want, code)
	want, code = encodeAgain(a, b)
	check(encode(a, b), want, code)
	want, code = monadAgain(op, a)
	check(monad(op, a), want, code)
	want, code = dyadAgain(op, a, b)
	check(dyad(op, a, b), want, code)
	return codes
}

// TestPrimitivesAgreeOnSmallLists has every list of up to three small numbers on one side, and lists and tables on the other.
func TestPrimitivesAgreeOnSmallLists(t *testing.T) {
	lists := append(listsOf(-2, -1, 0, 1, 2, 10), scalar(-2), scalar(-1), scalar(0), scalar(1), scalar(2), scalar(10))
	for i, list := range lists {
		for j, b := range []impl.Array{scalar(7), scalar(-7), vector(), vector(5), vector(-1, 12), vector(10, 2, -2), letters("ab"), noLetter(0), filled(false, 2, 3), none(3, 0), filled(true, 3, 1), filled(false, 1, 2, 3)} {
			for op := 1 + (i+j)%2; op <= greatestOp; op += 2 {
				checkPrimitives(t, op, list, b, i%2 == 0)
			}
		}
	}
}

// pairForPrimitives often go together in one of this chapter's functions, the first being a list.
func (g grower) pairForPrimitives() (impl.Array, impl.Array) {
	b := g.arrayOf(g.IntN(6) == 0, g.shape(4))
	var a impl.Array
	switch g.IntN(6) {
	case 0:
		a = g.list(b.Shape)
	case 1:
		a = vector()
		for range axisLength(b.Shape, g.IntN(2) == 0) {
			a = vector(append(a.Data, pick(g, 0, 0, 1, 1, 2, 3, g.IntN(20)-1))...)
		}
	case 2:
		a = g.arrayOf(b.Char, pick(g, []int{len(b.Data)}, []int{3}, []int{7}, b.Shape))
	case 3:
		a = vector(pick(g, 0, 1, 2, 5, 10, 60, 100, 5000, 10001, top), pick(g, 0, 1, 2, 7, 10))
	case 4:
		a = g.arrayOf(false, g.shape(4))
	default:
		a = full(false, pick(g, 0, 1, 2, 3, 10, -1, 10000, 10001, top, -top), pick(g, nil, nil, []int{1}, []int{2}, []int{1, 1})...)
	}
	if g.IntN(3) == 0 {
		b = g.arrayOf(g.IntN(8) == 0, pick(g, a.Shape, nil, []int{1}, []int{len(a.Data)}, []int{2}))
	}
	if g.IntN(40) == 0 {
		g.spoil(&a)
	}
	if g.IntN(40) == 0 {
		g.spoil(&b)
	}
	if g.IntN(4) == 0 {
		return b, a
	}
	return a, b
}

func TestPrimitivesAgreeByChance(t *testing.T) {
	g := grower{rand.New(rand.NewPCG(35, 2542))}
	counts := map[[2]int]int{}
	for range 20000 {
		op := 1 + g.IntN(33)
		if g.IntN(20) == 0 {
			op = pick(g, noOps...)
		}
		a, b := g.pairForPrimitives()
		for function, code := range checkPrimitives(t, op, a, b, g.IntN(2) == 0) {
			counts[[2]int{function, code}]++
		}
	}
	wantEveryCode(t, counts, [][]int{
		{0, impl.ErrDomain, impl.ErrRank}, {0, impl.ErrDomain, impl.ErrRank}, {0, impl.ErrDomain}, {0, impl.ErrDomain, impl.ErrRank, impl.ErrLength, impl.ErrLimit}, {0, impl.ErrDomain, impl.ErrRank, impl.ErrLength, impl.ErrLimit}, {0, impl.ErrDomain, impl.ErrRank, impl.ErrLimit},
		{0, impl.ErrSyntax, impl.ErrDomain, impl.ErrRank, impl.ErrLength}, {0, impl.ErrSyntax, impl.ErrDomain, impl.ErrRank, impl.ErrLength, impl.ErrLimit},
	})
}

func FuzzPrimitives(f *testing.F) {
	f.Add(26, 0, []byte{4}, []byte{3, 1, 2, 1}, []byte{2}, []byte{1, 3})
	f.Add(29, 8, []byte{3}, []byte{1, 0, 2}, []byte{2, 3}, []byte{1, 2, 3, 4, 5, 6})
	f.Add(31, 16, []byte{2}, []byte{0, 0, 0, 0, 1, 0, 0, 0}, []byte{2}, []byte{0, 0, 0, 0, 1, 0, 0, 0})
	f.Add(32, 0, []byte{3}, []byte{24, 60, 60}, []byte{2, 2}, []byte{100, 200, 7, 255})
	f.Add(28, 6, []byte{3}, []byte("abc"), []byte{2, 0}, []byte{})
	f.Fuzz(func(t *testing.T, op int, flags int, shapeA []byte, dataA []byte, shapeB []byte, dataB []byte) {
		isSet := func(bit int) bool { return flags&(1<<bit) != 0 }
		a, b := arrayFrom(isSet(1), isSet(4), shapeA, dataA), arrayFrom(isSet(2), isSet(4), shapeB, dataB)
		// Few bytes make a valid array by themselves.
		a.Data, b.Data = fitted(a), fitted(b)
		checkPrimitives(t, op%36, a, b, isSet(3))
	})
}
