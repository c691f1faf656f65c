package tests

import (
	"slices"
	"testing"

	"loop.example/s02542/impl"
)

var bothWays = []bool{false, true}

func TestGrade(t *testing.T) {
	for _, c := range []struct{ a, up, down impl.Array }{
		{vector(3, 1, 2), vector(2, 3, 1), vector(1, 3, 2)},
		{vector(3, 1, 2, 1), vector(2, 4, 3, 1), vector(1, 3, 2, 4)},
		{vector(3, 1, 2, 3), vector(2, 3, 1, 4), vector(1, 4, 3, 2)},
		{vector(0, -1, 1, -top, top, 0), vector(4, 2, 1, 6, 3, 5), vector(5, 3, 1, 6, 2, 4)},
		{vector(top, -top, top-1, 1-top), vector(2, 4, 3, 1), vector(1, 3, 4, 2)},
		{vector(10, 9, 100, -10, -9), vector(4, 5, 2, 1, 3), vector(3, 1, 2, 5, 4)},
		{letters("cab"), vector(2, 3, 1), vector(1, 3, 2)},
		{letters("banana"), vector(2, 4, 6, 1, 3, 5), vector(3, 5, 1, 2, 4, 6)},
		{letters("aB b"), vector(3, 2, 1, 4), vector(4, 1, 2, 3)},
		{characters([]int{4}, "⍴é😀z"), vector(4, 2, 1, 3), vector(3, 1, 2, 4)},
	} {
		grade(c.a, false).gives(t, c.up)
		grade(c.a, true).gives(t, c.down)
	}
}

func TestGradeOfNoneAndOne(t *testing.T) {
	for _, down := range bothWays {
		grade(vector(), down).gives(t, vector())
		grade(noLetter(0), down).gives(t, vector())
		for _, n := range []int{0, 1, -1, 7, top, -top} {
			grade(vector(n), down).gives(t, vector(1))
		}
		grade(letters("a"), down).gives(t, vector(1))
	}
}

// TestGradeOfEqualAndOrderedOnes has lengths at which a way to sort may change.
func TestGradeOfEqualAndOrderedOnes(t *testing.T) {
	for _, length := range []int{2, 3, 4, 11, 12, 13, 20, 21, 50, 51, 1000, 10000} {
		inOrder := upTo(length)
		backwards := upTo(length)
		slices.Reverse(backwards.Data)
		for _, down := range bothWays {
			for _, n := range []int{0, 5, -top} {
				grade(full(false, n, length), down).gives(t, inOrder)
			}
			grade(full(true, 'x', length), down).gives(t, inOrder)
		}
		grade(inOrder, false).gives(t, inOrder)
		grade(inOrder, true).gives(t, backwards)
		grade(backwards, false).gives(t, backwards)
		grade(backwards, true).gives(t, inOrder)
		// One that is out of order, at either end.
		grade(vector(append([]int{length}, upTo(length-1).Data...)...), false).gives(t, vector(append(inOrder.Data[1:], 1)...))
		grade(vector(append(upTo(length-1).Data, 0)...), false).gives(t, vector(append([]int{length}, upTo(length-1).Data...)...))
	}
}

// TestGradeKeepsEqualOnesInOrder has few values in many places, in stretches and by turns.
func TestGradeKeepsEqualOnesInOrder(t *testing.T) {
	for _, length := range []int{2, 5, 12, 13, 40, 333, 10000} {
		for _, kinds := range []int{1, 2, 3, 7} {
			turns, stretches := upTo(length), upTo(length)
			for i := range length {
				turns.Data[i] = i % kinds
				stretches.Data[i] = -i * kinds / length
			}
			for _, a := range []impl.Array{turns, stretches} {
				var up, down []int
				for value := -kinds; value <= kinds; value++ {
					var equal []int
					for i, n := range a.Data {
						if n == value {
							equal = append(equal, i+1)
						}
					}
					up = append(up, equal...)
					down = append(slices.Clone(equal), down...)
				}
				grade(a, false).gives(t, vector(up...))
				grade(a, true).gives(t, vector(down...))
			}
		}
	}
}

func TestGradeOfWhatIsNoVector(t *testing.T) {
	for _, shape := range shapesUpTo(2) {
		if len(shape) == 1 {
			continue
		}
		for _, a := range both(shape...) {
			for _, down := range bothWays {
				grade(a, down).fails(t, impl.ErrRank)
			}
		}
	}
	grade(scalar(3), false).fails(t, impl.ErrRank)
	grade(letter('a'), true).fails(t, impl.ErrRank)
	grade(filled(false, 1, 3), false).fails(t, impl.ErrRank)
}

func TestFind(t *testing.T) {
	find(vector(5, 6, 5), vector(5, 7, 6)).gives(t, vector(1, 4, 2))
	find(vector(5, 6, 5), scalar(6)).gives(t, scalar(2))
	find(vector(5, 6, 5), scalar(-6)).gives(t, scalar(4))
	find(letters("abcabc"), letters("cabx")).gives(t, vector(3, 1, 2, 7))
	find(letters("abc"), letter('b')).gives(t, scalar(2))
	find(vector(4, 4, 4), full(false, 4, 2, 2)).gives(t, full(false, 1, 2, 2))
	find(vector(1, 2), numbers([]int{2, 3}, 3, 2, 1, 0, 2, 2)).gives(t, numbers([]int{2, 3}, 3, 2, 1, 3, 2, 2))
	find(vector(top, -top, 0), vector(-top, 0, top, top-1, 1)).gives(t, vector(2, 3, 1, 4, 4))
	find(vector(1<<32, 0, 1<<31), vector(0, 1<<31, 1<<32, -1<<31)).gives(t, vector(2, 3, 1, 4))
	find(upTo(10000), vector(10000, 1, 10001, 0)).gives(t, vector(10000, 1, 10001, 10001))
	find(full(false, 3, 10000), vector(3, 4)).gives(t, vector(1, 10001))
	find(upTo(10000), filled(false, 100, 100)).gives(t, filled(false, 100, 100))
}

func TestMember(t *testing.T) {
	member(vector(5, 7, 6), vector(5, 6, 5)).gives(t, vector(1, 0, 1))
	member(scalar(6), vector(5, 6, 5)).gives(t, scalar(1))
	member(scalar(6), scalar(6)).gives(t, scalar(1))
	member(scalar(6), scalar(-6)).gives(t, scalar(0))
	member(letters("ab"), letters("xb")).gives(t, vector(0, 1))
	member(letters("hello"), filled(true, 2, 2, 2)).gives(t, vector(1, 1, 0, 0, 0))
	member(numbers([]int{2, 2}, 1, 9, 6, 7), filled(false, 2, 3)).gives(t, numbers([]int{2, 2}, 1, 0, 1, 0))
	member(vector(top, -top, 0), vector(top)).gives(t, vector(1, 0, 0))
	member(filled(false, 100, 100), scalar(77)).gives(t, oneAmong(76, 100, 100))
	member(vector(10000, 10001, 1, 0), filled(false, 10000)).gives(t, vector(1, 0, 1, 0))
}

// oneAmong is 1 at a place, and 0 elsewhere.
func oneAmong(place int, shape ...int) impl.Array {
	a := full(false, 0, shape...)
	a.Data[place] = 1
	return a
}

// TestFindAndMemberOnEveryShape has the shape of what is looked for, whatever it is looked for in.
func TestFindAndMemberOnEveryShape(t *testing.T) {
	for _, shape := range shapesUpTo(2) {
		for _, b := range both(shape...) {
			places, missing := filled(false, shape...), full(false, 33, shape...)
			for i, place := range places.Data {
				// The letters come again behind the last.
				if b.Char {
					places.Data[i] = (place-1)%26 + 1
				}
			}
			find(filled(b.Char, 32), b).gives(t, places)
			// A number and a character are not equal.
			find(full(!b.Char, 97, 32), b).gives(t, missing)
			find(filled(!b.Char, 32), b).gives(t, missing)
			for _, where := range [][]int{{32}, {2, 16}, {2, 2, 2, 2, 2}} {
				member(b, filled(b.Char, where...)).gives(t, full(false, 1, shape...))
				member(b, filled(!b.Char, where...)).gives(t, full(false, 0, shape...))
			}
			if len(b.Data) > 0 {
				member(full(b.Char, b.Data[0], shape...), b).gives(t, full(false, 1, shape...))
			}
			member(full(b.Char, 10, shape...), full(b.Char, 11, 3, 3)).gives(t, full(false, 0, shape...))
		}
	}
}

// TestFindAndMemberWithoutElements has none to look for, and none to look in, of every rank and either kind.
func TestFindAndMemberWithoutElements(t *testing.T) {
	for _, shape := range shapesUpTo(2) {
		for _, b := range both(shape...) {
			for _, empty := range both(0) {
				find(empty, b).gives(t, full(false, 1, shape...))
				member(b, empty).gives(t, full(false, 0, shape...))
			}
			if len(b.Data) > 0 {
				continue
			}
			for _, a := range []impl.Array{vector(), vector(1), upTo(5), noLetter(0), letters("abc")} {
				find(a, b).gives(t, none(shape...))
				member(b, a).gives(t, none(shape...))
				member(a, b).gives(t, full(false, 0, a.Shape...))
			}
			member(scalar(0), b).gives(t, scalar(0))
			member(letter(' '), b).gives(t, scalar(0))
		}
	}
	find(vector(), none(10000, 0)).gives(t, none(10000, 0))
	member(noLetter(0, 10000), upTo(3)).gives(t, none(0, 10000))
}

// TestFindNumbersInCharacters has numbers that are those of the characters.
func TestFindNumbersInCharacters(t *testing.T) {
	find(letters("ab"), scalar(97)).gives(t, scalar(3))
	find(vector(97, 98), letter('a')).gives(t, scalar(3))
	find(letters("ab"), vector(97, 98)).gives(t, vector(3, 3))
	find(vector(97, 98), letters("ab")).gives(t, vector(3, 3))
	member(letters("ab"), vector(97, 98)).gives(t, vector(0, 0))
	member(vector(97, 98), letters("ab")).gives(t, vector(0, 0))
	member(scalar(32), letter(' ')).gives(t, scalar(0))
	member(letter(' '), scalar(32)).gives(t, scalar(0))
	member(full(true, 0), scalar(0)).gives(t, scalar(0))
	member(scalar(0), full(true, 0)).gives(t, scalar(0))
	member(full(true, 0), full(true, 0)).gives(t, scalar(1))
	find(full(true, 0, 3), full(true, 0)).gives(t, scalar(1))
	find(full(true, 0, 3), scalar(0)).gives(t, scalar(4))
}

func TestFindInWhatIsNoVector(t *testing.T) {
	for _, shape := range shapesUpTo(2) {
		if len(shape) == 1 {
			continue
		}
		for _, a := range both(shape...) {
			for _, b := range []impl.Array{scalar(1), letter('a'), vector(), upTo(2), letters("ab"), filled(false, 2, 2), none(0, 1)} {
				find(a, b).fails(t, impl.ErrRank)
				// Member asks for no vector on either side.
				if got := answerOf(t, member(a, b)); !slices.Equal(got.Shape, a.Shape) {
					t.Errorf("Member of %s has the shape %s", arrayName(a), listName(got.Shape))
				}
				if got := answerOf(t, member(b, a)); !slices.Equal(got.Shape, b.Shape) {
					t.Errorf("Member of %s has the shape %s", arrayName(b), listName(got.Shape))
				}
			}
		}
	}
	find(scalar(1), scalar(1)).fails(t, impl.ErrRank)
	find(filled(false, 1, 2), scalar(1)).fails(t, impl.ErrRank)
}
