package tests

import (
	"math/big"
	"math/rand/v2"
	"slices"
	"testing"

	"loop.example/s02542/impl"
)

// elementAgain reckons with big numbers, where nothing wraps round, and only then asks whether the result is one of an array.
func elementAgain(op int, x int, y int) (int, int) {
	a, b, result := big.NewInt(int64(x)), big.NewInt(int64(y)), new(big.Int)
	switch op {
	case impl.FnAdd:
		result.Add(a, b)
	case impl.FnSub:
		result.Sub(a, b)
	case impl.FnMul:
		result.Mul(a, b)
	case impl.FnDiv:
		if x == 0 && y == 0 {
			return 1, 0
		}
		if y == 0 || !new(big.Rat).SetFrac(a, b).IsInt() {
			return 0, impl.ErrDomain
		}
		result.Quo(a, b)
	case impl.FnMod:
		if x == 0 {
			return y, 0
		}
		result.Sub(b, new(big.Int).Mul(a, roundedDown(b, a)))
	case impl.FnPow:
		if y < 0 {
			return 0, impl.ErrDomain
		}
		result.Exp(a, big.NewInt(smallExponent(y)), nil)
	default:
		return compareAgain(op, x, y)
	}
	if result.CmpAbs(big.NewInt(1000000000000000)) > 0 {
		return 0, impl.ErrLimit
	}
	return int(result.Int64()), 0
}

// roundedDown is a quotient; Euclid's rest, which big numbers have, is never below 0.
func roundedDown(over *big.Int, under *big.Int) *big.Int {
	quotient, rest := new(big.Int).DivMod(over, under, new(big.Int))
	if under.Sign() < 0 && rest.Sign() != 0 {
		quotient.Sub(quotient, big.NewInt(1))
	}
	return quotient
}

// smallExponent gives the same power where that is small, and one that is too great where it is too great.
func smallExponent(y int) int64 {
	if y > 100 {
		return int64(100 + y%2)
	}
	return int64(y)
}

func compareAgain(op int, x int, y int) (int, int) {
	if op == impl.FnMin || op == impl.FnMax {
		both := []int{x, y}
		slices.Sort(both)
		return both[op-impl.FnMin], 0
	}
	if op == impl.FnAnd || op == impl.FnOr {
		if x*x != x || y*y != y {
			return 0, impl.ErrDomain
		}
		return map[int]int{impl.FnAnd: x * y, impl.FnOr: x + y - x*y}[op], 0
	}
	// Which of these hold when x is less than, equal to and greater than y.
	holds := map[int][3]int{impl.FnEq: {0, 1, 0}, impl.FnNe: {1, 0, 1}, impl.FnLt: {1, 0, 0}, impl.FnLe: {1, 1, 0}, impl.FnGe: {0, 1, 1}, impl.FnGt: {0, 0, 1}}
	return holds[op][big.NewInt(int64(x)).Cmp(big.NewInt(int64(y)))+1], 0
}

func pairAgain(op int, x int, y int, mixed bool) (int, int) {
	if mixed {
		return map[int]int{impl.FnEq: 0, impl.FnNe: 1}[op], 0
	}
	return elementAgain(op, x, y)
}

func isRefused(op int, a impl.Array, b impl.Array) bool {
	return (a.Char || b.Char) && op != impl.FnEq && op != impl.FnNe
}

func isWrong(op int, arrays ...impl.Array) bool {
	return op < 1 || op > 16 || slices.ContainsFunc(arrays, func(a impl.Array) bool { return !arrayOkAgain(a) })
}

// indexesOf are the indexes of all elements of a shape, in order.
func indexesOf(shape []int) [][]int {
	all := [][]int{{}}
	for _, length := range shape {
		var longer [][]int
		for _, index := range all {
			for i := range length {
				longer = append(longer, append(slices.Clone(index), i))
			}
		}
		all = longer
	}
	return all
}

func elementAt(a impl.Array, index []int) int {
	place := 0
	for axis, length := range a.Shape {
		place = place*length + index[axis]
	}
	return a.Data[place]
}

func noArrayHas(shape []int) bool {
	product := big.NewInt(1)
	for _, length := range shape {
		product.Mul(product, big.NewInt(int64(max(length, 1))))
	}
	return len(shape) > 5 || product.Cmp(big.NewInt(10000)) > 0
}

// arrayAgain has the elements of all indexes of a shape, up to the first code.
func arrayAgain(shape []int, element func(index []int) (int, int)) (impl.Array, int) {
	a := impl.Array{Shape: shape}
	for _, index := range indexesOf(shape) {
		n, code := element(index)
		if code != 0 {
			return impl.Array{}, code
		}
		a.Data = append(a.Data, n)
	}
	return a, 0
}

func scalar1Again(op int, a impl.Array) (impl.Array, int) {
	if !slices.Contains([]int{impl.FnAdd, impl.FnSub, impl.FnMul, impl.FnMod, impl.FnNot}, op) || !arrayOkAgain(a) || a.Char {
		return impl.Array{}, impl.ErrDomain
	}
	return arrayAgain(a.Shape, func(index []int) (int, int) {
		n := elementAt(a, index)
		sign := big.NewInt(int64(n)).Sign()
		if op == impl.FnNot && n*n != n {
			return 0, impl.ErrDomain
		}
		return map[int]int{impl.FnAdd: n, impl.FnSub: 0 - n, impl.FnMul: sign, impl.FnMod: n * sign, impl.FnNot: 1 - n}[op], 0
	})
}

func scalar2Again(op int, a impl.Array, b impl.Array) (impl.Array, int) {
	if isWrong(op, a, b) {
		return impl.Array{}, impl.ErrDomain
	}
	switch oneA, oneB := len(a.Data) == 1, len(b.Data) == 1; {
	case oneA && oneB && len(a.Shape) > len(b.Shape), oneB && !oneA:
		b = full(b.Char, b.Data[0], a.Shape...)
	case oneA && oneB, oneA && !oneB:
		a = full(a.Char, a.Data[0], b.Shape...)
	case len(a.Shape) != len(b.Shape):
		return impl.Array{}, impl.ErrRank
	case !slices.Equal(a.Shape, b.Shape):
		return impl.Array{}, impl.ErrLength
	}
	if isRefused(op, a, b) {
		return impl.Array{}, impl.ErrDomain
	}
	return arrayAgain(a.Shape, func(index []int) (int, int) {
		return pairAgain(op, elementAt(a, index), elementAt(b, index), a.Char != b.Char)
	})
}

// foldList is the document's e1 op (e2 op (..)), word for word.
func foldList(op int, list []int) (int, int) {
	if len(list) == 0 {
		return emptyAnswers[op], 0
	}
	if len(list) == 1 {
		return list[0], 0
	}
	rest, code := foldList(op, list[1:])
	if code != 0 {
		return 0, code
	}
	return elementAgain(op, list[0], rest)
}

// alongAxis are the first elements of an array along an axis, the others of whose indexes are given.
func alongAxis(a impl.Array, others []int, axis int, count int) []int {
	var list []int
	for i := range count {
		list = append(list, elementAt(a, slices.Insert(slices.Clone(others), axis, i)))
	}
	return list
}

func axisPlace(a impl.Array, first bool) int {
	if first {
		return 0
	}
	return len(a.Shape) - 1
}

func foldAgain(op int, a impl.Array, first bool) (impl.Array, int) {
	if isWrong(op, a) {
		return impl.Array{}, impl.ErrDomain
	}
	if len(a.Shape) == 0 {
		return a, 0
	}
	axis := axisPlace(a, first)
	if a.Char && a.Shape[axis] != 1 {
		return impl.Array{}, impl.ErrDomain
	}
	got, code := arrayAgain(slices.Delete(slices.Clone(a.Shape), axis, axis+1), func(index []int) (int, int) {
		return foldList(op, alongAxis(a, index, axis, a.Shape[axis]))
	})
	got.Char = a.Char && code == 0
	return got, code
}

func scanAgain(op int, a impl.Array, first bool) (impl.Array, int) {
	if isWrong(op, a) {
		return impl.Array{}, impl.ErrDomain
	}
	if len(a.Shape) == 0 {
		return a, 0
	}
	axis := axisPlace(a, first)
	if a.Char && a.Shape[axis] > 1 {
		return impl.Array{}, impl.ErrDomain
	}
	got, code := arrayAgain(a.Shape, func(index []int) (int, int) {
		return foldList(op, alongAxis(a, slices.Delete(slices.Clone(index), axis, axis+1), axis, index[axis]+1))
	})
	got.Char = a.Char && code == 0
	return got, code
}

func outerAgain(op int, a impl.Array, b impl.Array) (impl.Array, int) {
	shape := slices.Concat(a.Shape, b.Shape)
	if isWrong(op, a, b) {
		return impl.Array{}, impl.ErrDomain
	}
	if noArrayHas(shape) {
		return impl.Array{}, impl.ErrLimit
	}
	if isRefused(op, a, b) {
		return impl.Array{}, impl.ErrDomain
	}
	return arrayAgain(shape, func(index []int) (int, int) {
		return pairAgain(op, elementAt(a, index[:len(a.Shape)]), elementAt(b, index[len(a.Shape):]), a.Char != b.Char)
	})
}

func innerAgain(f int, g int, a impl.Array, b impl.Array) (impl.Array, int) {
	if isWrong(f, a, b) || isWrong(g) {
		return impl.Array{}, impl.ErrDomain
	}
	if len(a.Shape) == 0 {
		a = full(a.Char, a.Data[0], axisLength(b.Shape, true))
	}
	if len(b.Shape) == 0 {
		b = full(b.Char, b.Data[0], axisLength(a.Shape, false))
	}
	last := len(a.Shape) - 1
	shape := slices.Concat(a.Shape[:last], b.Shape[1:])
	if a.Shape[last] != b.Shape[0] {
		return impl.Array{}, impl.ErrLength
	}
	if noArrayHas(shape) {
		return impl.Array{}, impl.ErrLimit
	}
	return arrayAgain(shape, func(index []int) (int, int) {
		if isRefused(g, a, b) {
			return 0, impl.ErrDomain
		}
		row, column := alongAxis(a, index[:last], last, b.Shape[0]), alongAxis(b, index[last:], 0, b.Shape[0])
		for i := range row {
			var code int
			row[i], code = pairAgain(g, row[i], column[i], a.Char != b.Char)
			if code != 0 {
				return 0, code
			}
		}
		return foldList(f, row)
	})
}

func (c call) agrees(t *testing.T, want impl.Array, wantCode int) int {
	t.Helper()
	got, code := c.answer(t)
	if code != wantCode || !isAlike(got, want) {
		t.Fatalf("%s: %s, code %d; want %s, code %d", c, arrayName(got), code, arrayName(want), wantCode)
	}
	return code
}

// checkScalars asks all functions of this chapter of two arrays, and gives back the codes.
func checkScalars(t *testing.T, f int, g int, a impl.Array, b impl.Array, first bool) []int {
	t.Helper()
	var codes []int
	check := func(c call, want impl.Array, code int) {
		t.Helper()
		codes = append(codes, c.agrees(t, want, code))
	}
	want, code := scalar1Again(f, a)
	check(scalar1(f, a), want, code)
	want, code = scalar2Again(f, a, b)
	check(scalar2(f, a, b), want, code)
	want, code = foldAgain(f, a, first)
	check(fold(f, a, first), want, code)
	want, code = scanAgain(f, a, first)
	check(scan(f, a, first), want, code)
	want, code = outerAgain(f, a, b)
	check(outer(f, a, b), want, code)
	want, code = innerAgain(f, g, a, b)
	check(inner(f, g, a, b), want, code)
	return codes
}

// edgeNumbers are those at which some op has a code for one and none for the next.
var edgeNumbers = []int{0, 1, -1, 2, -2, 3, -3, 7, 10, -10, 15, 16, 31, 32, 49, 50, 51, 1000, -1000, 100000, 31622776, 31622777, -31622776, -31622777, 1 << 31, 1 << 32, 1<<32 + 1, -1 << 32, 142857142857142, 142857142857143, 333333333333333, 333333333333334, top / 2, top/2 + 1, -top / 2, -top/2 - 1, top - 1, 1 - top, top, -top}

func TestElementsAgree(t *testing.T) {
	edges := slices.Clone(edgeNumbers)
	for n := -13; n <= 13; n++ {
		edges = append(edges, n)
	}
	for _, op := range everyOp {
		for _, x := range edges {
			for _, y := range edges {
				want, code := elementAgain(op, x, y)
				got, gotCode := impl.Scalar2(op, scalar(x), scalar(y))
				if gotCode != code || code == 0 && !isAlike(got, scalar(want)) {
					t.Fatalf("%d op %d %d: %s, code %d; want %d, code %d", x, op, y, arrayName(got), gotCode, want, code)
				}
			}
		}
	}
}

// pool chooses what the elements of one array are taken from, so that ops that want small numbers often have a result.
func (g grower) pool() []int {
	return [][]int{{0, 1}, {0, 1, 2, 3}, {1, 2, 3, 4, 6, 12}, {-3, -2, -1, 0, 1, 2, 3}, {-20, -7, 5, 9, 15}, edgeNumbers, {top, -top, 0, 1, -1, top - 1}, {0}, {1}, {1, -1}, {97, 98}}[g.IntN(11)]
}

func (g grower) shape(greatest int) []int {
	var shape []int
	for range g.IntN(4) + g.IntN(3) {
		shape = append(shape, pick(g, 0, 1, 1, 2, 2, 3, greatest))
	}
	if len(shape) > impl.MaxRank {
		return nil
	}
	return shape
}

func (g grower) arrayOf(isChar bool, shape []int) impl.Array {
	a := filled(isChar, shape...)
	from := g.pool()
	for i := range a.Data {
		if isChar {
			a.Data[i] = 'a' + g.IntN(3)
		} else {
			a.Data[i] = pick(g, from...)
		}
	}
	return a
}

// pairOfArrays often go together in one of this chapter's functions.
func (g grower) pairOfArrays() (impl.Array, impl.Array) {
	left := g.shape(4)
	right := g.shape(4)
	switch g.IntN(6) {
	case 0, 1:
		right = left
	case 2:
		right = ones(g.IntN(impl.MaxRank + 1))
	case 3:
		if len(left) > 0 && len(right) > 0 {
			right[0] = left[len(left)-1]
		}
	}
	a, b := g.arrayOf(g.IntN(8) == 0, left), g.arrayOf(g.IntN(8) == 0, right)
	if g.IntN(30) == 0 {
		g.spoil(&a)
	}
	if g.IntN(30) == 0 {
		g.spoil(&b)
	}
	if g.IntN(2) == 0 {
		return b, a
	}
	return a, b
}

func (g grower) op() int {
	if g.IntN(25) == 0 {
		return pick(g, wrongOps...)
	}
	return pick(g, everyOp...)
}

func TestScalarFunctionsAgreeByChance(t *testing.T) {
	g := grower{rand.New(rand.NewPCG(12, 2542))}
	counts := map[[2]int]int{}
	for range 15000 {
		a, b := g.pairOfArrays()
		for function, code := range checkScalars(t, g.op(), g.op(), a, b, g.IntN(2) == 0) {
			counts[[2]int{function, code}]++
		}
	}
	wantEveryCode(t, counts, [][]int{{0, impl.ErrDomain}, {0, impl.ErrDomain, impl.ErrRank, impl.ErrLength, impl.ErrLimit}, {0, impl.ErrDomain, impl.ErrLimit}, {0, impl.ErrDomain, impl.ErrLimit}, {0, impl.ErrDomain, impl.ErrLimit}, {0, impl.ErrDomain, impl.ErrLength, impl.ErrLimit}})
}

// wantEveryCode asks that each function came with each of its codes, and without one.
func wantEveryCode(t *testing.T, counts map[[2]int]int, codesOf [][]int) {
	t.Helper()
	for function, codes := range codesOf {
		for _, code := range codes {
			if counts[[2]int{function, code}] < 100 {
				t.Errorf("function %d had the code %d only %d times", function, code, counts[[2]int{function, code}])
			}
		}
	}
}

// TestScalar2DoesNotHangOnExtension is promise 3.
func TestScalar2DoesNotHangOnExtension(t *testing.T) {
	g := grower{rand.New(rand.NewPCG(13, 2542))}
	for _, shape := range shapesUpTo(2) {
		for _, op := range everyOp {
			for _, isChar := range []bool{false, false, false, true} {
				a, one := g.arrayOf(isChar, shape), g.arrayOf(g.IntN(5) == 0, nil)
				spread := full(one.Char, one.Data[0], shape...)
				scalar2(op, a, one).answersLike(t, scalar2(op, a, spread))
				scalar2(op, one, a).answersLike(t, scalar2(op, spread, a))
			}
		}
	}
}

// TestScalar2DoesNotHangOnExtensionAtEdges is promise 3 where codes come up.
func TestScalar2DoesNotHangOnExtensionAtEdges(t *testing.T) {
	for _, op := range everyOp {
		for _, n := range edgeNumbers {
			for _, a := range []impl.Array{vector(edgeNumbers...), vector(0, 1), numbers([]int{2, 2}, n, 1, 0, n), vector(n, -n), none(0), letters("ab"), vector(2, 3, 4)} {
				spread := full(false, n, a.Shape...)
				scalar2(op, a, scalar(n)).answersLike(t, scalar2(op, a, spread))
				scalar2(op, scalar(n), a).answersLike(t, scalar2(op, spread, a))
			}
		}
	}
}

// TestFoldOfBothIsFoldOfEach is the first half of promise 4.
func TestFoldOfBothIsFoldOfEach(t *testing.T) {
	g := grower{rand.New(rand.NewPCG(14, 2542))}
	for _, op := range []int{impl.FnAdd, impl.FnMul, impl.FnMin, impl.FnMax, impl.FnAnd, impl.FnOr} {
		asked := 0
		for range 4000 {
			from := g.pool()
			a, b := vector(), vector()
			for range g.IntN(6) {
				a = vector(append(a.Data, pick(g, from...))...)
			}
			for range g.IntN(6) {
				b = vector(append(b.Data, pick(g, from...))...)
			}
			joined, joinCode := catenate(a, b).answer(t)
			if joinCode != 0 {
				t.Fatalf("Catenate of %s and %s: code %d", arrayName(a), arrayName(b), joinCode)
			}
			both, code := fold(op, joined, g.IntN(2) == 0).answer(t)
			left, leftCode := fold(op, a, false).answer(t)
			right, rightCode := fold(op, b, false).answer(t)
			if code != 0 || leftCode != 0 || rightCode != 0 {
				continue
			}
			want, wantCode := scalar2(op, left, right).answer(t)
			if wantCode != 0 {
				continue
			}
			asked++
			if !isAlike(both, want) {
				t.Fatalf("Fold by %d of %s and %s: %s and not %s", op, arrayName(a), arrayName(b), arrayName(both), arrayName(want))
			}
		}
		if asked < 800 {
			t.Errorf("op %d was asked of %d pairs only", op, asked)
		}
	}
}

// TestTheLastOfScanIsFold is the other half of promise 4.
func TestTheLastOfScanIsFold(t *testing.T) {
	g := grower{rand.New(rand.NewPCG(15, 2542))}
	for _, op := range everyOp {
		asked := 0
		for range 2000 {
			a, first := g.arrayOf(false, g.shape(5)), g.IntN(2) == 0
			scanned, code := scan(op, a, first).answer(t)
			folded, foldCode := fold(op, a, first).answer(t)
			if foldCode != 0 && code == 0 && len(a.Data) > 0 {
				t.Fatalf("op %d of %s: Fold has the code %d and Scan has none", op, arrayName(a), foldCode)
			}
			if code != 0 || axisLength(a.Shape, first) == 0 {
				continue
			}
			asked++
			if !slices.Equal(scanned.Shape, a.Shape) || !slices.Equal(lastAlong(scanned, first), folded.Data) {
				t.Fatalf("op %d of %s: Scan ends with %s, Fold is %s", op, arrayName(a), listName(lastAlong(scanned, first)), listName(folded.Data))
			}
		}
		if asked < 300 {
			t.Errorf("op %d was asked of %d arrays only", op, asked)
		}
	}
}

func lastAlong(a impl.Array, first bool) []int {
	count := len(a.Data) / max(axisLength(a.Shape, first), 1)
	if first {
		return a.Data[len(a.Data)-count:]
	}
	var list []int
	for i := range count {
		list = append(list, a.Data[(i+1)*len(a.Data)/count-1])
	}
	return list
}

// TestOuterHasEachWithEach is the first half of promise 5.
func TestOuterHasEachWithEach(t *testing.T) {
	g := grower{rand.New(rand.NewPCG(16, 2542))}
	for range 6000 {
		op := pick(g, everyOp...)
		a, b := g.arrayOf(g.IntN(6) == 0, g.shape(4)), g.arrayOf(g.IntN(6) == 0, g.shape(4))
		got, code := outer(op, a, b).answer(t)
		if noArrayHas(slices.Concat(a.Shape, b.Shape)) {
			if code != impl.ErrLimit {
				t.Fatalf("Outer by %d of %s and %s: code %d", op, arrayName(a), arrayName(b), code)
			}
			continue
		}
		var data []int
		wantCode := 0
		if isRefused(op, a, b) {
			wantCode = impl.ErrDomain
		}
		for _, x := range a.Data {
			for _, y := range b.Data {
				one, oneCode := impl.Scalar2(op, full(a.Char, x), full(b.Char, y))
				if wantCode == 0 {
					wantCode = oneCode
				}
				data = append(data, one.Data...)
			}
		}
		if code != wantCode || code == 0 && !isAlike(got, numbers(slices.Concat(a.Shape, b.Shape), data...)) {
			t.Fatalf("Outer by %d of %s and %s: %s, code %d", op, arrayName(a), arrayName(b), arrayName(got), code)
		}
	}
}

// matrices have a product.
func (g grower) matrices() (impl.Array, impl.Array) {
	rows, length, columns := g.IntN(6), g.IntN(6), g.IntN(6)
	a, b := filled(false, rows, length), filled(false, length, columns)
	for i := range a.Data {
		a.Data[i] = g.IntN(20001) - 10000
	}
	for i := range b.Data {
		b.Data[i] = g.IntN(20001) - 10000
	}
	return a, b
}

// TestInnerIsTheProductOfMatrices is the other half of promise 5; the product is reckoned a row of b at a time.
func TestInnerIsTheProductOfMatrices(t *testing.T) {
	g := grower{rand.New(rand.NewPCG(17, 2542))}
	for range 3000 {
		a, b := g.matrices()
		rows, length, columns := a.Shape[0], a.Shape[1], b.Shape[1]
		want := full(false, 0, rows, columns)
		for k := range length {
			for i := range rows {
				for j := range columns {
					want.Data[i*columns+j] += a.Data[i*length+k] * b.Data[k*columns+j]
				}
			}
		}
		inner(impl.FnAdd, impl.FnMul, a, b).gives(t, want)
	}
	unit := full(false, 0, 100, 100)
	for i := range 100 {
		unit.Data[i*101] = 1
	}
	square := filled(false, 100, 100)
	inner(impl.FnAdd, impl.FnMul, square, unit).gives(t, square)
	inner(impl.FnAdd, impl.FnMul, unit, square).gives(t, square)
}

func FuzzScalar(f *testing.F) {
	f.Add(1, 3, true, false, []byte{2, 3}, []byte{1, 254, 30, 4, 5, 6}, []byte{3, 2}, []byte{1, 2, 3, 4, 5, 6})
	f.Add(8, 16, false, false, []byte{3}, []byte{10, 99, 255}, []byte{}, []byte{3})
	f.Add(9, 9, true, true, []byte{2}, []byte("ab"), []byte{2, 0}, []byte{})
	f.Add(7, 15, false, true, []byte{}, []byte{0, 128, 198, 164, 126, 141, 3, 0}, []byte{1, 1}, []byte{0, 0, 0, 0, 1, 0, 0, 0})
	f.Fuzz(func(t *testing.T, op int, other int, first bool, isWide bool, shapeA []byte, dataA []byte, shapeB []byte, dataB []byte) {
		a, b := arrayFrom(op%5 == 4, isWide, shapeA, dataA), arrayFrom(other%5 == 4, isWide, shapeB, dataB)
		// Few bytes make a valid array by themselves.
		a.Data, b.Data = fitted(a), fitted(b)
		checkScalars(t, op%20, other%20, a, b, first)
	})
}

// fitted are an array's elements over and over again, as many as a small shape asks for.
func fitted(a impl.Array) []int {
	count := 1
	for _, length := range a.Shape {
		count = min(max(count*length, 0), 300)
	}
	if len(a.Data) == 0 {
		return a.Data
	}
	return slices.Repeat(a.Data, count/len(a.Data)+1)[:count]
}
