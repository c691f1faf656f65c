package tests

import (
	"slices"
	"testing"

	"loop.example/s02542/impl"
)

func TestIndex(t *testing.T) {
	m := filled(false, 2, 3)
	index(m, atOne(2), all).gives(t, vector(4, 5, 6))
	index(m, all, atOne(2)).gives(t, vector(2, 5))
	index(m, atOne(2), atOne(3)).gives(t, scalar(6))
	index(m, atList(2), atList(3)).gives(t, numbers([]int{1, 1}, 6))
	index(m, all, atList(3, 1)).gives(t, numbers([]int{2, 2}, 3, 1, 6, 4))
	index(m, atList(2, 1, 2), atList(3, 3)).gives(t, numbers([]int{3, 2}, 6, 6, 3, 3, 6, 6))
	index(m, atList(2, 1), all).gives(t, numbers([]int{2, 3}, 4, 5, 6, 1, 2, 3))
	index(m, all, all).gives(t, m)
	index(letters("abcde"), atList(5, 4, 3, 2, 1)).gives(t, letters("edcba"))
	index(letters("abcde"), atOne(4)).gives(t, letter('d'))
	index(letters("abcde"), all).gives(t, letters("abcde"))
	index(filled(false, 2, 3, 4), atOne(2), atList(1, 3), atOne(4)).gives(t, vector(16, 24))
	index(filled(false, 2, 3, 4), all, atOne(2), atList(4, 1)).gives(t, numbers([]int{2, 2}, 8, 5, 20, 17))
}

// TestIndexByPartsOfHigherRank has the axes of each part in turn.
func TestIndexByPartsOfHigherRank(t *testing.T) {
	index(letters("abc"), at(numbers([]int{2, 2}, 3, 1, 2, 3))).gives(t, characters([]int{2, 2}, "cabc"))
	index(letters("abc"), at(numbers([]int{1, 1, 1, 1, 1}, 3))).gives(t, characters([]int{1, 1, 1, 1, 1}, "c"))
	m := filled(false, 2, 3)
	index(m, at(numbers([]int{1, 2}, 2, 1)), atOne(3)).gives(t, numbers([]int{1, 2}, 6, 3))
	index(m, atOne(1), at(numbers([]int{2, 1}, 3, 2))).gives(t, numbers([]int{2, 1}, 3, 2))
	index(m, at(numbers([]int{2, 2}, 1, 2, 2, 1)), atList(3, 1, 2)).gives(t, numbers([]int{2, 2, 3}, 3, 1, 2, 6, 4, 5, 6, 4, 5, 3, 1, 2))
	index(m, atList(2, 1), at(numbers([]int{2, 2}, 1, 2, 3, 1))).gives(t, numbers([]int{2, 2, 2}, 4, 5, 6, 4, 1, 2, 3, 1))
	index(m, at(numbers([]int{1, 2}, 2, 1)), at(numbers([]int{2, 1, 1}, 3, 2))).gives(t, numbers([]int{1, 2, 2, 1, 1}, 6, 5, 3, 2))
	index(filled(false, 2, 2, 2), at(numbers([]int{2, 1}, 2, 1)), all, atOne(1)).gives(t, numbers([]int{2, 1, 2}, 5, 7, 1, 3))
	// As many axes as there may be, and one more.
	for _, ranks := range [][]int{{5, 0}, {0, 5}, {3, 2}, {2, 3}, {4, 1}, {2, 2}} {
		index(m, at(full(false, 2, ones(ranks[0])...)), at(full(false, 3, ones(ranks[1])...))).gives(t, numbers(ones(ranks[0]+ranks[1]), 6))
	}
	for _, ranks := range [][]int{{5, 1}, {1, 5}, {3, 3}, {2, 4}, {5, 5}} {
		index(m, at(full(false, 2, ones(ranks[0])...)), at(full(false, 3, ones(ranks[1])...))).fails(t, impl.ErrLimit)
	}
	index(filled(false, 1, 1, 1, 1, 2), all, all, all, all, at(ofOnes(2, 1, 2))).fails(t, impl.ErrLimit)
	index(filled(false, 1, 1, 1, 1, 2), atOne(1), all, all, all, at(numbers([]int{1, 2}, 2, 1))).gives(t, numbers([]int{1, 1, 1, 1, 2}, 2, 1))
}

func ofOnes(shape ...int) impl.Array { return full(false, 1, shape...) }

// TestIndexWithAllAtEachPlace holds a part that is All against one with all numbers, at every set of places.
func TestIndexWithAllAtEachPlace(t *testing.T) {
	for _, shape := range [][]int{{}, {3}, {0}, {2, 3}, {2, 0}, {0, 3}, {2, 3, 2}, {2, 1, 3, 2}, {2, 0, 3, 1}, {2, 1, 3, 1, 2}, {1, 1, 1, 1, 1}} {
		for _, a := range both(shape...) {
			for set := range 1 << len(shape) {
				var withAll, withNumbers []impl.Part
				for axis, length := range shape {
					part := at(upTo(length))
					withNumbers = append(withNumbers, part)
					if set&(1<<axis) != 0 {
						part = all
					}
					withAll = append(withAll, part)
				}
				index(a, withAll...).gives(t, a)
				index(a, withNumbers...).gives(t, a)
				replace(a, a, withAll...).gives(t, a)
				replace(a, full(a.Char, 'z', shape...), withAll...).gives(t, full(a.Char, 'z', shape...))
			}
		}
	}
}

func TestIndexAndReplaceOfScalars(t *testing.T) {
	for _, a := range []impl.Array{scalar(7), letter('a')} {
		index(a).gives(t, a)
		if got, code := impl.Index(a, nil); code != 0 || !isAlike(got, a) {
			t.Errorf("%s, code %d", arrayName(got), code)
		}
		index(a, all).fails(t, impl.ErrRank)
		index(a, atOne(1)).fails(t, impl.ErrRank)
		for rank := range impl.MaxRank + 1 {
			replace(a, full(a.Char, 'z', ones(rank)...)).gives(t, full(a.Char, 'z'))
			replace(a, full(!a.Char, 'z', ones(rank)...)).fails(t, impl.ErrDomain)
		}
		for _, b := range []impl.Array{vector(), vector(1, 2), filled(false, 2, 2), letters("ab"), none(2, 0)} {
			replace(a, b).fails(t, impl.ErrRank)
		}
		replace(a, a, all).fails(t, impl.ErrRank)
		replace(a, a, atOne(1)).fails(t, impl.ErrRank)
	}
}

// TestIndexByPartsWithoutElements picks nothing, also where there is nothing to pick from.
func TestIndexByPartsWithoutElements(t *testing.T) {
	for _, a := range both(2, 3) {
		index(a, atList(), all).gives(t, full(a.Char, 0, 0, 3))
		index(a, all, atList()).gives(t, full(a.Char, 0, 2, 0))
		index(a, atList(), atList()).gives(t, full(a.Char, 0, 0, 0))
		index(a, atOne(1), atList()).gives(t, full(a.Char, 0, 0))
		index(a, at(none(2, 0)), atOne(3)).gives(t, full(a.Char, 0, 2, 0))
		index(a, at(none(0, 2)), at(none(3, 0, 4))).gives(t, full(a.Char, 0, 0, 2, 3, 0, 4))
		for _, b := range []impl.Array{full(a.Char, 'z'), full(a.Char, 'z', 1, 1, 1), full(a.Char, 0, 0, 3)} {
			replace(a, b, atList(), all).gives(t, a)
		}
		replace(a, full(a.Char, 0, 2, 0), at(none(2, 0)), atOne(3)).gives(t, a)
		replace(a, full(a.Char, 0, 0, 2), at(none(2, 0)), atOne(3)).fails(t, impl.ErrLength)
		replace(a, full(a.Char, 0, 0), at(none(2, 0)), atOne(3)).fails(t, impl.ErrRank)
		replace(a, full(!a.Char, 0, 2, 0), at(none(2, 0)), atOne(3)).fails(t, impl.ErrDomain)
		replace(a, full(!a.Char, 'z'), atList(), all).fails(t, impl.ErrDomain)
		// Numbers beside a part without elements are asked all the same.
		index(a, atList(), atOne(4)).fails(t, impl.ErrIndex)
		index(a, atOne(0), atList()).fails(t, impl.ErrIndex)
		index(a, at(noLetter(0)), all).fails(t, impl.ErrDomain)
		index(a, all, at(noLetter(0, 2))).fails(t, impl.ErrDomain)
	}
}

func TestIndexOfArraysWithoutElements(t *testing.T) {
	for _, shape := range shapesUpTo(2) {
		if !slices.Contains(shape, 0) {
			continue
		}
		for _, a := range both(shape...) {
			index(a, allOf(len(shape))...).gives(t, a)
			replace(a, a, allOf(len(shape))...).gives(t, a)
			replace(a, full(a.Char, 5), allOf(len(shape))...).gives(t, a)
			replace(a, full(!a.Char, 5), allOf(len(shape))...).fails(t, impl.ErrDomain)
			for axis, length := range shape {
				parts := allOf(len(shape))
				if length == 0 {
					parts[axis] = atOne(1)
					index(a, parts...).fails(t, impl.ErrIndex)
					replace(a, full(a.Char, 5), parts...).fails(t, impl.ErrIndex)
					parts[axis] = at(none(2, 0))
					want := slices.Replace(slices.Clone(shape), axis, axis+1, 2, 0)
					if len(want) > impl.MaxRank {
						index(a, parts...).fails(t, impl.ErrLimit)
						replace(a, full(a.Char, 5), parts...).fails(t, impl.ErrLimit)
					} else {
						index(a, parts...).gives(t, full(a.Char, 0, want...))
						replace(a, full(a.Char, 5, want...), parts...).gives(t, a)
					}
					continue
				}
				parts[axis] = atOne(length)
				left := slices.Delete(slices.Clone(shape), axis, axis+1)
				index(a, parts...).gives(t, full(a.Char, 0, left...))
				replace(a, full(a.Char, 5, left...), parts...).gives(t, a)
			}
		}
	}
}

func TestIndexNumberOfParts(t *testing.T) {
	for rank := range impl.MaxRank + 1 {
		for _, length := range []int{0, 1, 2} {
			a := ofOnes(slices.Repeat([]int{length}, rank)...)
			for count := range impl.MaxRank + 3 {
				if count == rank {
					continue
				}
				for _, part := range []impl.Part{all, atOne(1), atOne(99), atList(), at(letter('a')), {}, {All: true, A: scalar(1)}, at(notArrays[3])} {
					parts := slices.Repeat([]impl.Part{part}, count)
					// ErrRank comes ahead of what the parts are, and of what b is.
					index(a, parts...).fails(t, impl.ErrRank)
					replace(a, scalar(1), parts...).fails(t, impl.ErrRank)
					replace(a, letters("abc"), parts...).fails(t, impl.ErrRank)
				}
			}
			index(a, allOf(1000)...).fails(t, impl.ErrRank)
		}
	}
}

// TestIndexAllBesideAnArray has a part that is All with an A that is not nothing.
func TestIndexAllBesideAnArray(t *testing.T) {
	for _, a := range []impl.Array{{Char: true}, {Shape: []int{0}}, {Shape: []int{3}}, {Data: []int{1}}, {Data: []int{0}}, {Shape: []int{1}, Data: []int{1}}, {Char: true, Shape: []int{0}}, {Shape: []int{-1}}, {Shape: []int{3}, Data: []int{1, 2, 3}}, {Shape: []int{1, 1, 1, 1, 1, 1}}, {Data: []int{1, 2}}, scalar(1), letter('a')} {
		part := impl.Part{All: true, A: a}
		index(upTo(3), part).fails(t, impl.ErrDomain)
		replace(upTo(3), scalar(1), part).fails(t, impl.ErrDomain)
		for rank := 1; rank <= impl.MaxRank; rank++ {
			for place := range rank {
				parts := allOf(rank)
				parts[place] = part
				index(ofOnes(ones(rank)...), parts...).fails(t, impl.ErrDomain)
				index(ofOnes(make([]int, rank)...), parts...).fails(t, impl.ErrDomain)
			}
		}
	}
	// Lists that are empty and not nil are nothing too.
	for _, a := range []impl.Array{{}, {Shape: []int{}}, {Data: []int{}}, {Shape: []int{}, Data: []int{}}} {
		got, code := impl.Index(upTo(3), []impl.Part{{All: true, A: a}})
		if code != 0 || !isAlike(got, upTo(3)) {
			t.Errorf("%s, code %d", arrayName(got), code)
		}
	}
}

// TestIndexWrongParts has parts that are no valid array, or one of characters, or one with a number that the axis does not have.
func TestIndexWrongParts(t *testing.T) {
	for rank := 1; rank <= impl.MaxRank; rank++ {
		shape := slices.Repeat([]int{2}, rank)
		for place := range rank {
			try := func(part impl.Part, code int) {
				t.Helper()
				parts := allOf(rank)
				parts[place] = part
				for _, a := range both(shape...) {
					index(a, parts...).fails(t, code)
					replace(a, full(a.Char, 1), parts...).fails(t, code)
					// The codes of Index come ahead of those of Replace.
					replace(a, full(!a.Char, 1, 3), parts...).fails(t, code)
				}
			}
			for _, wrong := range notArrays {
				try(at(wrong), impl.ErrDomain)
			}
			for _, letters := range []impl.Array{full(true, 1), full(true, 1, 1), full(true, 1, 2, 2), noLetter(0), letter('a'), full(true, 99, 2)} {
				try(at(letters), impl.ErrDomain)
			}
			for _, n := range []int{0, -1, -2, 3, 4, 10001, 1 << 32, 1<<32 + 1, -1<<32 + 1, top, -top} {
				try(atOne(n), impl.ErrIndex)
				try(atList(n), impl.ErrIndex)
				for _, list := range [][]int{{n, 1, 2}, {1, n, 2}, {1, 2, n}} {
					try(atList(list...), impl.ErrIndex)
					try(at(numbers([]int{1, 3, 1}, list...)), impl.ErrIndex)
				}
			}
		}
	}
	index(vector(), atOne(0)).fails(t, impl.ErrIndex)
	index(vector(), atOne(1)).fails(t, impl.ErrIndex)
	index(upTo(10000), atOne(10000)).gives(t, scalar(10000))
	index(upTo(10000), atOne(10001)).fails(t, impl.ErrIndex)
}

// TestIndexAsksPartsInOrder has two wrong parts, whose codes are told apart.
func TestIndexAsksPartsInOrder(t *testing.T) {
	wrong := map[int][]impl.Part{
		impl.ErrDomain: {at(letter('a')), {}, {All: true, A: scalar(1)}, at(notArrays[4]), at(noLetter(0))},
		impl.ErrIndex:  {atOne(0), atList(1, 3), atOne(-1), at(full(false, 3, 2, 2))},
	}
	for first := range impl.MaxRank {
		for second := first + 1; second < impl.MaxRank; second++ {
			for code, parts := range wrong {
				for _, part := range parts {
					for _, other := range wrong[impl.ErrDomain+impl.ErrIndex-code] {
						list := allOf(impl.MaxRank)
						list[first], list[second] = part, other
						index(filled(false, 2, 2, 2, 2, 2), list...).fails(t, code)
						replace(filled(false, 2, 2, 2, 2, 2), letters("abc"), list...).fails(t, code)
					}
				}
			}
		}
	}
	// Within one part, what it is comes ahead of its numbers, and one wrong number is as good as another.
	index(upTo(3), at(letters("abc"))).fails(t, impl.ErrDomain)
	index(upTo(3), at(numbers([]int{3}, 0, 4))).fails(t, impl.ErrDomain)
	index(upTo(3), at(numbers([]int{2}, 4, top+1))).fails(t, impl.ErrDomain)
	index(upTo(3), atList(4, 0)).fails(t, impl.ErrIndex)
	// The shape of all parts together comes last.
	index(filled(false, 2, 2), at(ofOnes(1, 1, 1)), at(full(false, 3, 1, 1, 1))).fails(t, impl.ErrIndex)
	index(filled(false, 2, 2), at(ofOnes(1, 1, 1)), at(full(true, 1, 1, 1, 1))).fails(t, impl.ErrDomain)
	index(filled(false, 2, 2), at(ofOnes(1, 1, 1)), at(ofOnes(1, 1, 1))).fails(t, impl.ErrLimit)
	index(filled(false, 2, 2), at(ofOnes(10000)), at(full(false, 3, 10000))).fails(t, impl.ErrIndex)
	replace(filled(false, 2, 2), letters("abc"), at(ofOnes(10000)), at(ofOnes(10000))).fails(t, impl.ErrLimit)
}

func TestIndexJustValidAndTooGreat(t *testing.T) {
	for _, c := range []struct {
		left, right []int
		isValid     bool
	}{
		{[]int{100}, []int{100}, true}, {[]int{100}, []int{101}, false}, {[]int{10000}, nil, true}, {nil, []int{10000}, true}, {[]int{10000}, []int{1}, true}, {[]int{5000}, []int{3}, false}, {[]int{10000}, []int{10000}, false}, {[]int{10, 10}, []int{10, 10}, true}, {[]int{10, 10}, []int{11, 10}, false}, {[]int{10, 10, 10}, []int{5, 2}, true},
		{[]int{0}, []int{10000}, true}, {[]int{0, 100}, []int{100}, true}, {[]int{0, 100}, []int{101}, false}, {[]int{101}, []int{100, 0}, false}, {[]int{10000, 0}, []int{2}, false}, {[]int{0, 0, 0}, []int{0, 0}, true}, {[]int{0, 0, 0}, []int{0, 0, 0}, false}, {[]int{1, 1, 1}, []int{1, 1}, true}, {[]int{1, 1, 1, 1}, []int{1, 1}, false},
	} {
		a := numbers([]int{2, 2}, 1, 2, 3, 4)
		left, right := at(full(false, 2, c.left...)), at(full(false, 1, c.right...))
		shape := slices.Concat(c.left, c.right)
		if !c.isValid {
			index(a, left, right).fails(t, impl.ErrLimit)
			replace(a, scalar(9), left, right).fails(t, impl.ErrLimit)
			continue
		}
		index(a, left, right).gives(t, full(false, 3, shape...))
		n := 9
		if slices.Contains(shape, 0) {
			n = 3
		}
		replace(a, scalar(9), left, right).gives(t, numbers([]int{2, 2}, 1, 2, n, 4))
		replace(a, full(false, 9, shape...), left, right).gives(t, numbers([]int{2, 2}, 1, 2, n, 4))
	}
	index(filled(false, 100, 100), all, atOne(1)).gives(t, firstColumn())
	index(filled(false, 100, 100), all, at(full(false, 1, 101))).fails(t, impl.ErrLimit)
	index(none(10000, 0), all, at(none(2, 0))).fails(t, impl.ErrLimit)
	index(none(10000, 0), all, at(none(0, 2))).fails(t, impl.ErrLimit)
	index(none(10000, 0), all, at(none(1, 0))).gives(t, none(10000, 1, 0))
}

// firstColumn is the first column of the table of 100 by 100.
func firstColumn() impl.Array {
	a := upTo(100)
	for i := range a.Data {
		a.Data[i] = i*100 + 1
	}
	return a
}

func TestReplace(t *testing.T) {
	m := filled(false, 2, 3)
	replace(m, vector(7, 8, 9), atOne(2), all).gives(t, numbers([]int{2, 3}, 1, 2, 3, 7, 8, 9))
	replace(m, vector(7, 8), all, atOne(2)).gives(t, numbers([]int{2, 3}, 1, 7, 3, 4, 8, 6))
	replace(m, scalar(0), atOne(1), atOne(1)).gives(t, numbers([]int{2, 3}, 0, 2, 3, 4, 5, 6))
	replace(m, numbers([]int{2, 2}, 7, 8, 9, 10), atList(2, 1), atList(3, 1)).gives(t, numbers([]int{2, 3}, 10, 2, 9, 8, 5, 7))
	replace(m, scalar(0), all, atList(1, 3)).gives(t, numbers([]int{2, 3}, 0, 2, 0, 0, 5, 0))
	replace(letters("abcde"), letters("XY"), atList(4, 2)).gives(t, letters("aYcXe"))
	replace(letters("abcde"), letter('X'), all).gives(t, letters("XXXXX"))
	replace(letters("abcd"), characters([]int{2, 2}, "WXYZ"), at(numbers([]int{2, 2}, 4, 3, 2, 1))).gives(t, letters("ZYXW"))
	replace(filled(false, 2, 2, 2), vector(0, -1), atOne(2), all, atOne(1)).gives(t, numbers([]int{2, 2, 2}, 1, 2, 3, 4, 0, 6, -1, 8))
}

// TestReplaceTheLastCounts has places that come several times, within a part and by several parts.
func TestReplaceTheLastCounts(t *testing.T) {
	replace(upTo(3), vector(7, 8), atList(2, 2)).gives(t, vector(1, 8, 3))
	replace(upTo(3), vector(7, 8, 9, 10, 11), atList(2, 1, 2, 1, 2)).gives(t, vector(10, 11, 3))
	replace(upTo(3), numbers([]int{2, 2}, 7, 8, 9, 10), at(numbers([]int{2, 2}, 3, 1, 1, 3))).gives(t, vector(9, 2, 10))
	replace(filled(false, 2, 2), numbers([]int{2, 3}, 10, 11, 12, 13, 14, 15), atList(1, 1), atList(2, 2, 1)).gives(t, numbers([]int{2, 2}, 15, 14, 3, 4))
	replace(filled(false, 2, 2), full(false, 9, 3, 3), atList(1, 1, 1), atList(2, 2, 2)).gives(t, numbers([]int{2, 2}, 1, 9, 3, 4))
	replace(vector(5), upTo(10000), at(ofOnes(10000))).gives(t, vector(10000))
}

// TestReplaceByOneElementOfEveryRank holds it against what has just the shape that Index gives.
func TestReplaceByOneElementOfEveryRank(t *testing.T) {
	for rank := range impl.MaxRank + 1 {
		for _, a := range both(3, 2, 2) {
			one := full(a.Char, 'z', ones(rank)...)
			for _, parts := range [][]impl.Part{{all, all, all}, {atOne(2), all, all}, {atList(3, 1), atOne(2), all}, {atOne(1), atOne(1), atOne(2)}, {at(numbers([]int{1, 2}, 2, 2)), atList(1), all}, {all, atList(), atOne(1)}} {
				picked, code := index(a, parts...).answer(t)
				if code != 0 {
					t.Fatalf("code %d", code)
				}
				replace(a, one, parts...).answersLike(t, replace(a, full(a.Char, 'z', picked.Shape...), parts...))
				if _, code := replace(a, one, parts...).answer(t); code != 0 {
					t.Errorf("%s in %s: code %d", arrayName(one), arrayName(a), code)
				}
				replace(a, full(!a.Char, 'z', ones(rank)...), parts...).fails(t, impl.ErrDomain)
			}
		}
	}
}

func TestReplaceCodes(t *testing.T) {
	m := filled(false, 2, 3)
	for _, b := range []impl.Array{vector(1, 2, 3), vector(), filled(false, 3, 2, 1), none(2, 0, 3), filled(true, 6), noLetter(0), filled(true, 2, 3, 1)} {
		// Another rank, of whatever kind.
		replace(m, b, all, all).fails(t, impl.ErrRank)
	}
	for _, b := range []impl.Array{filled(false, 3, 2), filled(false, 2, 2), none(0, 3), none(2, 0), filled(false, 6, 1), filled(true, 3, 2), noLetter(0, 0)} {
		replace(m, b, all, all).fails(t, impl.ErrLength)
	}
	replace(m, filled(true, 2, 3), all, all).fails(t, impl.ErrDomain)
	replace(filled(true, 2, 3), m, all, all).fails(t, impl.ErrDomain)
	replace(m, letter('a'), all, all).fails(t, impl.ErrDomain)
	replace(m, letter('a'), atOne(1), atOne(1)).fails(t, impl.ErrDomain)
	// As many elements as are picked are not enough.
	replace(m, filled(false, 3, 1), atOne(1), all).fails(t, impl.ErrRank)
	replace(m, filled(false, 3), atList(1), all).fails(t, impl.ErrRank)
	replace(m, filled(false, 1, 3), atList(1), all).gives(t, m)
	replace(m, vector(1, 2), atOne(1), all).fails(t, impl.ErrLength)
	replace(m, vector(), atOne(1), all).fails(t, impl.ErrLength)
	replace(m, vector(1, 2), atOne(1), atOne(1)).fails(t, impl.ErrRank)
	replace(m, vector(), atOne(1), atOne(1)).fails(t, impl.ErrRank)
	replace(m, none(0), atOne(1), atList()).gives(t, m)
	replace(m, vector(1, 2), atOne(1), atList()).fails(t, impl.ErrLength)
}

// TestReplaceIsTheCallersOwn writes over the answer where nothing was replaced, and where all was.
func TestReplaceIsTheCallersOwn(t *testing.T) {
	for _, parts := range [][]impl.Part{{atList()}, {all}, {atOne(1)}} {
		a, b := copyArray(upTo(3)), copyArray(scalar(9))
		got, code := impl.Replace(a, parts, b)
		if code != 0 {
			t.Fatalf("code %d", code)
		}
		writeOver(got.Data)
		writeOver(got.Shape)
		if !isUntouched(a, upTo(3)) || !isUntouched(b, scalar(9)) {
			t.Errorf("%s and %s were written into", arrayName(a), arrayName(b))
		}
	}
	// Parts that share their lists, with each other and with the array.
	list := copyList([]int{2, 1})
	part := impl.Part{A: impl.Array{Shape: []int{2}, Data: list}}
	a := impl.Array{Shape: []int{2, 2}, Data: []int{1, 2, 3, 4}}
	for _, run := range []func() (impl.Array, int){
		func() (impl.Array, int) { return impl.Index(a, []impl.Part{part, part}) },
		func() (impl.Array, int) { return impl.Replace(a, []impl.Part{part, part}, a) },
	} {
		got, code := run()
		if code != 0 || !isAlike(got, numbers([]int{2, 2}, 4, 3, 2, 1)) || !isListUntouched(list, []int{2, 1}) {
			t.Errorf("%s, code %d", arrayName(got), code)
		}
		writeOver(got.Data)
		writeOver(got.Shape)
		if !isListUntouched(list, []int{2, 1}) || !isAlike(a, filled(false, 2, 2)) {
			t.Error("the answer shares memory with an argument")
		}
	}
}
