package tests

import (
	"slices"
	"testing"

	"loop.example/s02542/impl"
)

// goodShapes are just valid, badShapes just not or by far not; none has a number below 0.
var goodShapes = [][]int{{}, {0}, {1}, {10000}, {100, 100}, {1, 10000}, {10000, 1}, {0, 10000}, {10000, 0}, {0, 100, 100}, {100, 0, 100}, {100, 100, 0}, {0, 0}, {1, 1, 1, 1, 1}, {0, 0, 0, 0, 0}, {10, 10, 10, 5, 2}, {0, 10, 10, 10, 10}, {10, 10, 0, 10, 10}, {10000, 0, 0, 0, 0}}
var badShapes = [][]int{
	{10001}, {100, 101}, {101, 100}, {2, 5001}, {73, 137}, {10000, 2}, {0, 10001}, {10001, 0}, {0, 101, 100}, {101, 0, 100}, {101, 100, 0}, {10000, 0, 2}, {10, 10, 10, 5, 3}, {11, 10, 0, 10, 10}, {1, 1, 1, 1, 1, 1}, {0, 0, 0, 0, 0, 0}, {2, 1, 1, 1, 1, 1}, {1, 1, 1, 1, 1, 0},
	{top}, {top, 0}, {0, top, top}, {1 << 31}, {1 << 32, 1 << 32}, {0, 1 << 32, 1 << 32}, {1<<32 + 1}, {8192, 8192, 8192, 8192, 8192}, {10000, 10000, 10000, 10000, 10000}, {1 << 48, 1 << 16}, slices.Repeat([]int{1}, 10000), slices.Repeat([]int{0}, 7),
}

func TestReshape(t *testing.T) {
	reshape(vector(2, 3), upTo(6)).gives(t, filled(false, 2, 3))
	reshape(vector(2, 3), vector(1, 2, 3, 4)).gives(t, numbers([]int{2, 3}, 1, 2, 3, 4, 1, 2))
	reshape(vector(2, 2), filled(false, 3, 3)).gives(t, numbers([]int{2, 2}, 1, 2, 3, 4))
	reshape(scalar(4), filled(true, 1, 3)).gives(t, letters("abca"))
	reshape(vector(4), letter('⍴')).gives(t, characters([]int{4}, "⍴⍴⍴⍴"))
	reshape(vector(3, 1, 2), letters("xyzw")).gives(t, characters([]int{3, 1, 2}, "xyzwxy"))
	reshape(vector(2, 1, 1, 1, 2), scalar(-7)).gives(t, full(false, -7, 2, 1, 1, 1, 2))
	reshape(scalar(1), vector(top, -top)).gives(t, vector(top))
}

func TestReshapeToAScalar(t *testing.T) {
	for _, shape := range shapesUpTo(2) {
		for _, a := range both(shape...) {
			want := fillAgain(a)
			if len(a.Data) > 0 {
				want = a.Data[0]
			}
			reshape(vector(), a).gives(t, full(a.Char, want))
		}
	}
}

// TestReshapeToEveryShape goes from arrays without elements, with fewer and with more elements than it takes, and with as many.
func TestReshapeToEveryShape(t *testing.T) {
	for _, shape := range shapesUpTo(2) {
		for _, from := range [][]int{{}, {0}, {1}, {2}, {3}, {4}, {7}, {8}, {33}, {2, 3}, {0, 3}, {2, 0, 2}, {1, 1, 1, 1, 1}, {3, 1, 2, 2, 2}, {0, 0, 0, 0, 0}} {
			for _, a := range both(from...) {
				want := full(a.Char, fillAgain(a), shape...)
				for i := range want.Data {
					if len(a.Data) > 0 {
						want.Data[i] = a.Data[i%len(a.Data)]
					}
				}
				reshape(vector(shape...), a).gives(t, want)
			}
		}
	}
}

func TestReshapeJustValidAndTooGreat(t *testing.T) {
	for _, a := range []impl.Array{scalar(7), letter('a'), vector(7, 7, 7), noLetter(0), none(0, 3), full(true, 'b', 100, 100)} {
		n := fillAgain(a)
		if len(a.Data) > 0 {
			n = a.Data[0]
		}
		for _, shape := range goodShapes {
			reshape(vector(shape...), a).gives(t, full(a.Char, n, shape...))
		}
		for _, shape := range badShapes {
			reshape(vector(shape...), a).fails(t, impl.ErrLimit)
		}
		reshape(scalar(10000), a).gives(t, full(a.Char, n, 10000))
		reshape(scalar(10001), a).fails(t, impl.ErrLimit)
		reshape(scalar(0), a).gives(t, full(a.Char, n, 0))
		reshape(scalar(top), a).fails(t, impl.ErrLimit)
	}
}

func TestReshapeNumbersBelowZero(t *testing.T) {
	for _, a := range []impl.Array{scalar(7), letters("ab"), noLetter(0), none(0, 3)} {
		for _, n := range []int{-1, -2, -10000, -10001, -1 << 32, -top} {
			reshape(scalar(n), a).fails(t, impl.ErrDomain)
			for _, shape := range slices.Concat(goodShapes, badShapes) {
				for _, place := range []int{0, len(shape) / 2, len(shape)} {
					// Also where no valid array would have the shape's other numbers.
					if list := slices.Insert(slices.Clone(shape), place, n); len(list) <= 10000 {
						reshape(vector(list...), a).fails(t, impl.ErrDomain)
					}
				}
			}
		}
		reshape(vector(-1, -1), a).fails(t, impl.ErrDomain)
		reshape(vector(-2, -3, 1), a).fails(t, impl.ErrDomain)
	}
}

// TestListsOfNumbers has what is no list of numbers where one is asked for: ErrRank comes first, and both come ahead of all that is asked of the numbers.
func TestListsOfNumbers(t *testing.T) {
	for _, a := range []impl.Array{scalar(7), letter('a'), vector(), vector(1, 2), letters("abc"), filled(false, 2, 2), none(0, 2), filled(true, 1, 2, 1, 2, 1)} {
		for _, run := range []func(list impl.Array, a impl.Array) call{reshape, transpose, take, drop} {
			for _, shape := range shapesUpTo(2) {
				if len(shape) >= 2 {
					run(full(false, -1, shape...), a).fails(t, impl.ErrRank)
					run(full(false, 1, shape...), a).fails(t, impl.ErrRank)
					run(full(true, 1, shape...), a).fails(t, impl.ErrRank)
				}
			}
			run(full(false, 10000, 1, 3), a).fails(t, impl.ErrRank)
			for _, list := range []impl.Array{full(true, 1), letter('1'), noLetter(0), full(true, 1, 1), full(true, 2, 2), full(true, 0, 3), letters("abcdef"), full(true, 1, 7), full(true, 20000, 2), full(true, 1, len(a.Shape))} {
				run(list, a).fails(t, impl.ErrDomain)
			}
		}
	}
}

func TestCatenate(t *testing.T) {
	catenate(vector(1, 2), vector(3, 4, 5)).gives(t, upTo(5))
	catenate(letters("ab"), letters("c")).gives(t, letters("abc"))
	catenate(filled(false, 2, 2), numbers([]int{2, 1}, 8, 9)).gives(t, numbers([]int{2, 3}, 1, 2, 8, 3, 4, 9))
	catenate(numbers([]int{2, 1}, 8, 9), filled(false, 2, 2)).gives(t, numbers([]int{2, 3}, 8, 1, 2, 9, 3, 4))
	catenate(filled(false, 2, 1, 2), filled(false, 2, 1, 1)).gives(t, numbers([]int{2, 1, 3}, 1, 2, 1, 3, 4, 2))
	catenate(filled(false, 1, 2, 2), full(false, 0, 1, 2, 2)).gives(t, numbers([]int{1, 2, 4}, 1, 2, 0, 0, 3, 4, 0, 0))
	catenate(characters([]int{2, 1, 1, 1, 1}, "xy"), characters([]int{2, 1, 1, 1, 2}, "abcd")).gives(t, characters([]int{2, 1, 1, 1, 3}, "xabycd"))
	catenate(vector(top), vector(-top)).gives(t, vector(top, -top))
}

func TestCatenateTwoScalars(t *testing.T) {
	catenate(scalar(7), scalar(8)).gives(t, vector(7, 8))
	catenate(letter('a'), letter('b')).gives(t, letters("ab"))
	catenate(letter('a'), scalar(97)).fails(t, impl.ErrDomain)
	catenate(scalar(97), letter('a')).fails(t, impl.ErrDomain)
}

// withEnds has n in front of each row, or behind it.
func withEnds(a impl.Array, n int, isFront bool) impl.Array {
	last := len(a.Shape) - 1
	width := a.Shape[last]
	result := impl.Array{Char: a.Char, Shape: replacedAt(a.Shape, last, width+1)}
	count := 1
	for _, length := range a.Shape[:last] {
		count *= length
	}
	for row := range count {
		if isFront {
			result.Data = append(result.Data, n)
		}
		result.Data = append(result.Data, a.Data[row*width:(row+1)*width]...)
		if !isFront {
			result.Data = append(result.Data, n)
		}
	}
	return result
}

// TestCatenateAScalarBesideEveryRank goes through all shapes with axes of 0, 1 and 2 elements.
func TestCatenateAScalarBesideEveryRank(t *testing.T) {
	for _, shape := range shapesUpTo(2) {
		if len(shape) == 0 {
			continue
		}
		for _, a := range both(shape...) {
			catenate(full(a.Char, 50), a).gives(t, withEnds(a, 50, true))
			catenate(a, full(a.Char, 50)).gives(t, withEnds(a, 50, false))
		}
	}
	catenate(scalar(0), filled(false, 2, 3)).gives(t, numbers([]int{2, 4}, 0, 1, 2, 3, 0, 4, 5, 6))
	catenate(filled(true, 1, 2, 2), letter('-')).gives(t, characters([]int{1, 2, 3}, "ab-cd-"))
}

// TestCatenateAScalarOfTheOtherKind has one that is taken as no elements, or beside none.
func TestCatenateAScalarOfTheOtherKind(t *testing.T) {
	for _, shape := range shapesUpTo(2) {
		if len(shape) == 0 {
			continue
		}
		last := len(shape) - 1
		for _, a := range both(shape...) {
			other := full(!a.Char, 50)
			longer := replacedAt(shape, last, shape[last]+1)
			switch {
			case len(a.Data) > 0:
				catenate(a, other).fails(t, impl.ErrDomain)
				catenate(other, a).fails(t, impl.ErrDomain)
			case slices.Contains(shape[:last], 0):
				// Neither has elements: as the first one.
				catenate(a, other).gives(t, full(a.Char, 0, longer...))
				catenate(other, a).gives(t, full(!a.Char, 0, longer...))
			default:
				// The last axis alone has none, so that the scalar has some as it is taken.
				catenate(a, other).gives(t, full(!a.Char, 50, longer...))
				catenate(other, a).gives(t, full(!a.Char, 50, longer...))
			}
		}
	}
}

// TestCatenateRanksThatDifferByOne takes the lower one with an axis of 1 at its end.
func TestCatenateRanksThatDifferByOne(t *testing.T) {
	for _, low := range shapesUpTo(2) {
		if len(low) == 0 || len(low) == impl.MaxRank {
			continue
		}
		for width := range 3 {
			for _, isChar := range []bool{false, true} {
				lower, higher := filled(isChar, low...), filled(isChar, append(slices.Clone(low), width)...)
				taken := impl.Array{Char: isChar, Shape: append(slices.Clone(low), 1), Data: lower.Data}
				catenate(lower, higher).answersLike(t, catenate(taken, higher))
				catenate(higher, lower).answersLike(t, catenate(higher, taken))
				if _, code := impl.Catenate(lower, higher); code != 0 {
					t.Errorf("%v beside %v: code %d", low, higher.Shape, code)
				}
			}
		}
	}
	catenate(filled(false, 2, 2), vector(8, 9)).gives(t, numbers([]int{2, 3}, 1, 2, 8, 3, 4, 9))
	catenate(vector(8, 9), filled(false, 2, 2)).gives(t, numbers([]int{2, 3}, 8, 1, 2, 9, 3, 4))
	catenate(characters([]int{2, 2}, "wxyz"), filled(true, 2, 2, 2)).gives(t, characters([]int{2, 2, 3}, "wabxcdyefzgh"))
	catenate(none(2, 0), vector(8, 9)).gives(t, numbers([]int{2, 1}, 8, 9))
	catenate(letters("ab"), none(2, 0)).gives(t, characters([]int{2, 1}, "ab"))
	catenate(vector(), none(0, 3)).gives(t, none(0, 4))
	// One element is no scalar: it is not taken over and over.
	catenate(filled(false, 2, 2), vector(8)).fails(t, impl.ErrLength)
	catenate(vector(8), filled(false, 2, 2)).fails(t, impl.ErrLength)
	catenate(filled(false, 2, 2, 2), full(false, 8, 1, 1)).fails(t, impl.ErrLength)
}

func TestCatenateRanksThatDifferByMore(t *testing.T) {
	for low := 1; low <= impl.MaxRank; low++ {
		for high := low + 2; high <= impl.MaxRank; high++ {
			for _, length := range []int{0, 1, 2} {
				a, b := full(false, 1, slices.Repeat([]int{length}, low)...), full(false, 1, slices.Repeat([]int{length}, high)...)
				letters := full(true, 1, slices.Repeat([]int{3}, low)...)
				for _, c := range []call{catenate(a, b), catenate(b, a), catenate(letters, b), catenate(b, letters)} {
					c.fails(t, impl.ErrRank)
				}
			}
		}
	}
	catenate(vector(1), full(false, 1, 10000, 1, 1)).fails(t, impl.ErrRank)
}

func TestCatenateLengths(t *testing.T) {
	for _, c := range []struct{ left, right []int }{
		{[]int{2, 3}, []int{3, 3}}, {[]int{2, 3}, []int{3}}, {[]int{3}, []int{2, 3}}, {[]int{2, 3}, []int{1, 3}}, {[]int{1, 3}, []int{2, 3}}, {[]int{0, 3}, []int{1, 3}}, {[]int{1, 3}, []int{0, 3}}, {[]int{0, 0}, []int{1, 0}}, {[]int{2, 3}, []int{0}}, {[]int{0}, []int{2, 0}}, {[]int{2, 3, 4}, []int{3, 2, 4}}, {[]int{2, 3, 4}, []int{2, 4, 4}}, {[]int{2, 3, 4}, []int{3, 4}}, {[]int{2, 3, 4}, []int{3, 2}},
		{[]int{1, 1, 2, 1, 1}, []int{1, 1, 1, 1, 1}}, {[]int{1, 2, 1, 1}, []int{1, 1, 2, 1, 1}}, {[]int{2, 1, 1, 1, 1}, []int{3, 1, 1, 1}},
		// No valid array has the shape that these would make.
		{[]int{1, 10000}, []int{2, 5000}}, {[]int{100, 100}, []int{99, 1}}, {[]int{0, 10000}, []int{1, 10000}},
	} {
		for _, a := range both(c.left...) {
			for _, b := range both(c.right...) {
				// ErrDomain, for those of two kinds, comes behind.
				catenate(a, b).fails(t, impl.ErrLength)
				catenate(b, a).fails(t, impl.ErrLength)
			}
		}
	}
}

// TestCatenateAlongAnAxisOfNone has none on the left, on the right and on both sides, of numbers beside characters too.
func TestCatenateAlongAnAxisOfNone(t *testing.T) {
	for _, others := range shapesUpTo(2) {
		if len(others) == impl.MaxRank {
			continue
		}
		shape, empty := append(slices.Clone(others), 2), append(slices.Clone(others), 0)
		for _, a := range both(shape...) {
			isChar := a.Char
			catenate(a, full(isChar, 0, empty...)).gives(t, a)
			catenate(full(isChar, 0, empty...), a).gives(t, a)
			catenate(full(isChar, 0, empty...), full(isChar, 0, empty...)).gives(t, full(isChar, 0, empty...))
			catenate(full(isChar, 0, empty...), full(!isChar, 0, empty...)).gives(t, full(isChar, 0, empty...))
			if len(a.Data) > 0 {
				// The one with elements says of which kind they are.
				catenate(a, full(!isChar, 0, empty...)).gives(t, a)
				catenate(full(!isChar, 0, empty...), a).gives(t, a)
				catenate(a, full(!isChar, 9, shape...)).fails(t, impl.ErrDomain)
				continue
			}
			// None has elements, along the joined axis or not.
			catenate(a, full(!isChar, 0, empty...)).gives(t, a)
			catenate(full(!isChar, 0, empty...), a).gives(t, full(!isChar, 0, shape...))
			catenate(a, full(!isChar, 0, shape...)).gives(t, full(isChar, 0, append(slices.Clone(others), 4)...))
		}
	}
}

func TestCatenateJustValidAndTooGreat(t *testing.T) {
	for _, c := range []struct {
		left, right []int
		isValid     bool
	}{
		{[]int{9999}, []int{1}, true}, {[]int{9999}, nil, true}, {nil, []int{9999}, true}, {[]int{5000}, []int{5000}, true}, {[]int{10000}, []int{0}, true}, {[]int{0}, []int{10000}, true}, {[]int{10000}, []int{1}, false}, {[]int{10000}, nil, false}, {nil, []int{10000}, false}, {[]int{10000}, []int{10000}, false}, {[]int{5001}, []int{5000}, false},
		{[]int{100, 99}, []int{100}, true}, {[]int{100, 99}, nil, true}, {nil, []int{100, 99}, true}, {[]int{100, 99}, []int{100, 2}, false}, {[]int{100, 100}, []int{100}, false}, {[]int{100}, []int{100, 100}, false}, {[]int{100, 100}, nil, false}, {[]int{10000, 0}, []int{10000}, true}, {[]int{10000, 1}, []int{10000}, false}, {[]int{10000, 0}, nil, true},
		{[]int{10, 10, 10, 10, 0}, []int{10, 10, 10, 10}, true}, {[]int{10, 10, 10, 10, 1}, []int{10, 10, 10, 10}, false}, {[]int{10, 10, 10, 5, 1}, []int{10, 10, 10, 5, 1}, true}, {[]int{10, 10, 10, 5, 2}, []int{10, 10, 10, 5, 1}, false},
		// Without elements: the product of the other numbers counts.
		{[]int{0, 9999}, []int{0, 1}, true}, {[]int{0, 10000}, []int{0, 1}, false}, {[]int{0, 10000}, nil, false}, {nil, []int{0, 10000}, false}, {[]int{0, 10000}, []int{0}, false}, {[]int{0, 10000}, []int{0, 0}, true}, {[]int{100, 0, 50}, []int{100, 0, 50}, true}, {[]int{100, 0, 50}, []int{100, 0, 51}, false}, {[]int{0, 100, 100}, nil, false}, {[]int{0, 100, 99}, []int{0, 100}, true},
	} {
		a, b := full(false, 3, c.left...), full(false, 3, c.right...)
		wantOk(t, a)
		wantOk(t, b)
		if !c.isValid {
			catenate(a, b).fails(t, impl.ErrLimit)
			catenate(full(true, 3, c.left...), full(true, 3, c.right...)).fails(t, impl.ErrLimit)
			mixed := catenate(full(true, 3, c.left...), b)
			if slices.Contains(c.left, 0) || slices.Contains(c.right, 0) {
				mixed.fails(t, impl.ErrLimit)
			} else {
				mixed.fails(t, impl.ErrDomain)
			}
			continue
		}
		shape := slices.Clone(c.left)
		if len(c.right) > len(shape) {
			shape = slices.Clone(c.right)
		}
		last := len(shape) - 1
		width := 0
		for _, side := range [][]int{c.left, c.right} {
			if len(side) == len(shape) {
				width += side[last]
			} else {
				width++
			}
		}
		catenate(a, b).gives(t, full(false, 3, replacedAt(shape, last, width)...))
	}
}

func TestCatenateOrderOfCodes(t *testing.T) {
	// ErrRank, ErrLength, ErrDomain, ErrLimit, each beside the one behind it.
	catenate(letters("ab"), full(false, 1, 3, 1, 1)).fails(t, impl.ErrRank)
	catenate(letters("ab"), full(false, 1, 3, 2)).fails(t, impl.ErrLength)
	catenate(full(true, 1, 1, 10000), full(false, 1, 2, 5000)).fails(t, impl.ErrLength)
	catenate(full(true, 1, 10000), full(false, 1, 10000)).fails(t, impl.ErrDomain)
	catenate(full(true, 1, 10000), scalar(1)).fails(t, impl.ErrDomain)
	catenate(full(true, 1, 10000), letter('a')).fails(t, impl.ErrLimit)
	catenate(full(true, 1, 0, 10000), scalar(1)).fails(t, impl.ErrLimit)
}
