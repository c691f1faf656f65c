package tests

import (
	"math/big"
	"math/rand/v2"
	"slices"
	"testing"

	"loop.example/s02542/impl"
)

// manyVectors are of numbers and of characters, with many equal elements and with none.
func manyVectors() []impl.Array {
	g := grower{rand.New(rand.NewPCG(31, 2542))}
	many := []impl.Array{vector(), noLetter(0), vector(7), letters("a"), upTo(1000), full(false, 3, 500), full(true, 'z', 77), vector(edgeNumbers...), vector(top, -top, top, -top, 0)}
	for range 2000 {
		length := pick(g, 0, 1, 2, 3, 5, 11, 12, 13, 30, 100)
		a := g.arrayOf(g.IntN(3) == 0, []int{length})
		if g.IntN(3) == 0 {
			// Each number once.
			a = vector(g.Perm(length)...)
		}
		many = append(many, a)
	}
	return many
}

// TestGradeIsEachPlaceOnceInOrder is of promise 8.
func TestGradeIsEachPlaceOnceInOrder(t *testing.T) {
	equal, different := 0, 0
	for _, a := range manyVectors() {
		for _, down := range bothWays {
			places := answerOf(t, grade(a, down))
			if got := slices.Sorted(slices.Values(places.Data)); !slices.Equal(got, upTo(len(a.Data)).Data) {
				t.Fatalf("Grade of %s does not have each place once: %s", arrayName(a), arrayName(places))
			}
			ordered := answerOf(t, index(a, at(places)))
			for i := 1; i < len(ordered.Data); i++ {
				before, behind := ordered.Data[i-1], ordered.Data[i]
				if before == behind {
					equal++
				} else {
					different++
				}
				isInOrder := before < behind && !down || before > behind && down || before == behind && places.Data[i-1] < places.Data[i]
				if !isInOrder {
					t.Fatalf("Grade (down: %v) of %s is not in order at place %d: %s", down, arrayName(a), i, arrayName(places))
				}
			}
		}
	}
	if equal < 10000 || different < 10000 {
		t.Errorf("only %d equal and %d different ones stood beside each other", equal, different)
	}
}

// TestFindSaysWhereMemberSays1 is of promise 8, also between numbers and characters.
func TestFindSaysWhereMemberSays1(t *testing.T) {
	g := grower{rand.New(rand.NewPCG(32, 2542))}
	found, missing, mixed := 0, 0, 0
	for range 10000 {
		a, b := g.arrayOf(g.IntN(3) == 0, []int{g.IntN(8)}), g.arrayOf(g.IntN(3) == 0, g.shape(4))
		if g.IntN(3) > 0 {
			// Those elements that a has, and such that are beside them.
			for i := range b.Data {
				if len(a.Data) > 0 {
					b.Data[i] = pick(g, a.Data...) + g.IntN(2)
				}
			}
			b.Char = a.Char != (g.IntN(6) == 0)
			if !arrayOkAgain(b) {
				continue
			}
		}
		places, stands := answerOf(t, find(a, b)), answerOf(t, member(b, a))
		if !slices.Equal(places.Shape, b.Shape) || !slices.Equal(stands.Shape, b.Shape) {
			t.Fatalf("Find and Member of %s have the shapes %s and %s", arrayName(b), listName(places.Shape), listName(stands.Shape))
		}
		for i, place := range places.Data {
			if (stands.Data[i] == 1) != (place != len(a.Data)+1) || stands.Data[i] != 0 && stands.Data[i] != 1 {
				t.Fatalf("of %s in %s: Find says %d and Member %d at place %d", arrayName(b), arrayName(a), place, stands.Data[i], i)
			}
			if stands.Data[i] == 0 {
				missing++
				if a.Char != b.Char {
					mixed++
				}
				continue
			}
			found++
			if a.Char != b.Char || place < 1 || a.Data[place-1] != b.Data[i] || slices.Contains(a.Data[:place-1], b.Data[i]) {
				t.Fatalf("of %s in %s: Find says %d at place %d", arrayName(b), arrayName(a), place, i)
			}
		}
	}
	if found < 5000 || missing < 5000 || mixed < 1000 {
		t.Errorf("only %d were found, and %d missing, %d of them of the other kind", found, missing, mixed)
	}
}

// TestReplicateBy1IsTheArray is of promise 8; a scalar is taken as a vector of one.
func TestReplicateBy1IsTheArray(t *testing.T) {
	for _, a := range append(manyArrays(), upTo(10000), filled(true, 100, 100), filled(false, 10, 10, 10, 5, 2), none(10000, 0), noLetter(0, 10000)) {
		want := a
		if len(a.Shape) == 0 {
			want.Shape = []int{1}
		}
		for _, first := range bothEnds {
			replicate(scalar(1), a, first).gives(t, want)
			replicate(vector(1), a, first).gives(t, want)
			replicate(full(false, 1, axisLength(a.Shape, first)), a, first).gives(t, want)
		}
		dyad(impl.FnRep, scalar(1), a).gives(t, want)
		dyad(impl.FnRepF, scalar(1), a).gives(t, want)
	}
}

func productOf(list []int) *big.Int {
	product := big.NewInt(1)
	for _, n := range list {
		product.Mul(product, big.NewInt(int64(n)))
	}
	return product
}

// TestDecodeOfEncodeIsTheNumber is of promise 8: modulo the product of the bases, and itself where a base is 0 in front.
func TestDecodeOfEncodeIsTheNumber(t *testing.T) {
	g := grower{rand.New(rand.NewPCG(33, 2542))}
	below, wrapped, whole := 0, 0, 0
	for range 20000 {
		var bases []int
		for range g.IntN(6) {
			bases = append(bases, pick(g, 1, 2, 3, 7, 10, 16, 24, 60, 100, 1000))
		}
		n := pick(g, g.IntN(2001)-1000, g.IntN(2*top+1)-top, pick(g, goodNumbers...))
		if n < 0 {
			below++
		}
		product := productOf(bases)
		// Euclid's rest is never below 0.
		rest := int(new(big.Int).Mod(big.NewInt(int64(n)), product).Int64())
		if rest != n {
			wrapped++
		}
		digits := answerOf(t, encode(vector(bases...), scalar(n)))
		for i, digit := range digits.Data {
			if digit < 0 || digit >= bases[i] {
				t.Fatalf("Encode by %s of %d has the digit %d", listName(bases), n, digit)
			}
		}
		decode(vector(bases...), digits).gives(t, scalar(rest))
		withFront := vector(append([]int{0}, bases...)...)
		digits = answerOf(t, encode(withFront, scalar(n)))
		if n-rest >= -top {
			whole++
			decode(withFront, digits).gives(t, scalar(n))
			continue
		}
		// Next to -MaxInt a product may leave the numbers though the sum would come back, and has the code then.
		want, code := decodeAgain(withFront, digits)
		decode(withFront, digits).agrees(t, want, code)
	}
	if below < 5000 || wrapped < 5000 || whole < 15000 {
		t.Errorf("only %d numbers were below 0, %d not within the product, and %d not next to -MaxInt", below, wrapped, whole)
	}
}

// TestDecodeOfEncodeOfGreatNumbers has products that are just the numbers' bound, and beyond it.
func TestDecodeOfEncodeOfGreatNumbers(t *testing.T) {
	for _, n := range []int{0, 1, -1, 9, -9, top - 1, 1 - top, top, -top, 1 << 32, -1 << 32} {
		for _, bases := range [][]int{{top}, {top, 1}, {1, top}, {10, top / 10}, {top / 10, 10}, slices.Repeat([]int{10}, 15), {1000, 1000, 1000, 1000, 1000}} {
			want := (n%top + top) % top
			decode(vector(bases...), answerOf(t, encode(vector(bases...), scalar(n)))).gives(t, scalar(want))
			front := append([]int{0}, bases...)
			decode(vector(front...), answerOf(t, encode(vector(front...), scalar(n)))).gives(t, scalar(n))
		}
		// A number within so great a product is itself; one below 0 is more than the numbers hold.
		for _, bases := range [][]int{{top, top}, slices.Repeat([]int{10}, 16), {2, top}} {
			again := decode(vector(bases...), answerOf(t, encode(vector(bases...), scalar(n))))
			if n >= 0 {
				again.gives(t, scalar(n))
			}
		}
	}
}

// TestEachNumberHasItsOwnDigits is promise 8 for arrays: a column for each number.
func TestEachNumberHasItsOwnDigits(t *testing.T) {
	bases := []int{4, 3, 5}
	line := upTo(60)
	for i := range line.Data {
		line.Data[i] = i
	}
	digits := answerOf(t, encode(vector(bases...), line))
	seen := map[[3]int]int{}
	for i := range 60 {
		column := answerOf(t, index(digits, all, atOne(i+1)))
		decode(vector(bases...), column).gives(t, scalar(i))
		seen[[3]int(column.Data)] = i
	}
	if len(seen) != 60 {
		t.Errorf("only %d of 60 numbers have digits of their own", len(seen))
	}
}

// TestTheProductTurnedIsTheProductOfTheTurned is of promise 5, with Monad itself.
func TestTheProductTurnedIsTheProductOfTheTurned(t *testing.T) {
	g := grower{rand.New(rand.NewPCG(34, 2542))}
	for range 2000 {
		a, b := g.matrices()
		product := answerOf(t, inner(impl.FnAdd, impl.FnMul, a, b))
		turnedA, turnedB := answerOf(t, monad(impl.FnTurn, a)), answerOf(t, monad(impl.FnTurn, b))
		want := answerOf(t, monad(impl.FnTurn, product))
		if !slices.Equal(want.Shape, []int{b.Shape[1], a.Shape[0]}) {
			t.Fatalf("the product of %s and %s, turned, is %s", arrayName(a), arrayName(b), arrayName(want))
		}
		inner(impl.FnAdd, impl.FnMul, turnedB, turnedA).gives(t, want)
	}
}

// TestReversingAndTurningTwiceByMonad is of promise 6.
func TestReversingAndTurningTwiceByMonad(t *testing.T) {
	for _, a := range append(manyArrays(), upTo(10000), filled(true, 100, 100), filled(false, 10, 10, 10, 5, 2)) {
		for _, op := range []int{impl.FnRev, impl.FnRevF, impl.FnTurn} {
			once := answerOf(t, monad(op, a))
			if op != impl.FnTurn && !slices.Equal(once.Shape, a.Shape) {
				t.Errorf("op %d of %s has the shape %s", op, arrayName(a), listName(once.Shape))
			}
			monad(op, once).gives(t, a)
		}
		// Along the first axis is along the last of what is turned.
		turned := answerOf(t, monad(impl.FnTurn, a))
		monad(impl.FnTurn, answerOf(t, monad(impl.FnRev, turned))).answersLike(t, monad(impl.FnRevF, a))
	}
}

// TestRotatingThereAndBackByDyad is of promise 6.
func TestRotatingThereAndBackByDyad(t *testing.T) {
	for _, a := range manyArrays() {
		for _, op := range []int{impl.FnRev, impl.FnRevF} {
			for _, k := range []int{1, 2, -5, top} {
				dyad(op, scalar(-k), answerOf(t, dyad(op, scalar(k), a))).gives(t, a)
				// Reversing what is rotated is rotating the other way what is reversed.
				monad(op, answerOf(t, dyad(op, scalar(k), a))).answersLike(t, dyad(op, scalar(-k), answerOf(t, monad(op, a))))
			}
		}
	}
}
