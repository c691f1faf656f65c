package tests

import (
	"slices"
	"testing"

	"loop.example/s02542/impl"
)

func TestDecode(t *testing.T) {
	decode(vector(10, 10), vector(4, 2)).gives(t, scalar(42))
	decode(scalar(2), vector(1, 0, 1)).gives(t, scalar(5))
	decode(vector(2), vector(1, 0, 1)).gives(t, scalar(5))
	decode(vector(24, 60, 60), vector(1, 1, 1)).gives(t, scalar(3661))
	// The first base is multiplied with 0 alone.
	decode(vector(top, 60, 60), vector(1, 1, 1)).gives(t, scalar(3661))
	decode(vector(0, 60, 60), vector(1, 1, 1)).gives(t, scalar(3661))
	decode(vector(1, 2, 3), scalar(1)).gives(t, scalar(10))
	decode(vector(1, 2, 3), vector(1)).gives(t, scalar(10))
	decode(scalar(10), scalar(7)).gives(t, scalar(7))
	decode(vector(10), scalar(-7)).gives(t, scalar(-7))
	decode(scalar(10), vector(7)).gives(t, scalar(7))
	decode(scalar(-2), vector(1, 0, 1, 1)).gives(t, scalar(-9))
	decode(scalar(0), vector(5, 6, 7)).gives(t, scalar(7))
	decode(scalar(1), vector(5, 6, 7)).gives(t, scalar(18))
	decode(scalar(-1), vector(5, 6, 7)).gives(t, scalar(6))
	decode(vector(10, -10, 0), vector(1, 2, 3)).gives(t, scalar(3))
	decode(scalar(100), vector(-1, -2, -3)).gives(t, scalar(-10203))
	decode(scalar(1), full(false, 100000000000, 10000)).gives(t, scalar(top))
	decode(scalar(1), filled(false, 10000)).gives(t, scalar(50005000))
}

func TestDecodeWithoutElements(t *testing.T) {
	for _, c := range []call{decode(vector(), vector()), decode(vector(), scalar(5)), decode(scalar(5), vector()), decode(vector(), vector(5)), decode(vector(5), vector()), decode(scalar(top), vector()), decode(vector(), scalar(-top))} {
		c.gives(t, scalar(0))
	}
}

// TestDecodeOfOneBesideMany takes it as often as the other has elements, on either side.
func TestDecodeOfOneBesideMany(t *testing.T) {
	for count := range 8 {
		for _, n := range []int{0, 1, -1, 2, 3, -10} {
			for _, one := range []impl.Array{scalar(n), vector(n)} {
				decode(one, upTo(count)).answersLike(t, decode(full(false, n, count), upTo(count)))
				decode(upTo(count), one).answersLike(t, decode(upTo(count), full(false, n, count)))
			}
		}
	}
}

// TestDecodeJustWithinAndBeyond has values that stay in the numbers of an array, or just leave them, by the product or by the sum.
func TestDecodeJustWithinAndBeyond(t *testing.T) {
	for _, c := range []struct {
		bases, digits impl.Array
		want          int
	}{
		{scalar(9), vector(top), top}, {scalar(9), vector(-top), -top}, {vector(2, 1), vector(top, 0), top}, {vector(2, 1), vector(top-1, 1), top}, {vector(2, -1), vector(top, 0), -top}, {vector(2, -1), vector(-top, 0), top}, {vector(2, -1), vector(top-1, -1), -top},
		{scalar(2), vector(top/2, 0), top}, {scalar(2), vector(-top/2, 0), -top}, {scalar(2), vector(top/2, -1), top - 1}, {scalar(top), vector(1, 0), top}, {scalar(-top), vector(1, 0), -top}, {scalar(top), vector(-1, 0), -top}, {scalar(top - 1), vector(1, 1), top}, {vector(1, top), vector(0, top), top},
		{scalar(10), vector(1, 0, 0, 0, 0, 0, 0, 0, 0, 0, 0, 0, 0, 0, 0, 0), top}, {scalar(10), full(false, 9, 15), top - 1}, {vector(7, 7, 7), vector(20408163265306, 0, 6), top}, {vector(7, 7, 7), vector(-20408163265306, 0, -6), -top},
		// It comes back from the edge, by the sum and by a base of 0.
		{scalar(1), vector(top, -top, top, -top), 0}, {vector(1, 0), vector(top, 5), 5}, {vector(1, 1, 0, 1), vector(top, 0, 7, -8), -1},
	} {
		decode(c.bases, c.digits).gives(t, scalar(c.want))
	}
	for _, c := range []struct{ bases, digits impl.Array }{
		{scalar(1), vector(top, 1)}, {scalar(1), vector(-top, -1)}, {scalar(1), vector(1, top)}, {scalar(1), vector(top, top)}, {scalar(-1), vector(top, -1)},
		{scalar(2), vector(top/2, 1)}, {scalar(2), vector(top/2+1, 0)}, {scalar(2), vector(-top/2-1, 0)}, {scalar(2), vector(-top/2, -1)}, {scalar(3), vector(333333333333334, 0)}, {scalar(-3), vector(333333333333334, 0)},
		// The product alone leaves them, and the sum would come back.
		{scalar(2), vector(top/2+1, -2)}, {scalar(2), vector(top/2+1, -top)}, {scalar(2), vector(-top/2-1, top)}, {scalar(top), vector(2, -top)}, {scalar(-top), vector(2, top)},
		// What comes behind would be 0.
		{vector(1, 2, 0), vector(top, 0, 0)}, {vector(1, 1, 0), vector(top, 1, 0)},
		{scalar(10), vector(1, 0, 0, 0, 0, 0, 0, 0, 0, 0, 0, 0, 0, 0, 0, 1)}, {scalar(10), full(false, 9, 16)}, {vector(7, 7, 7), vector(20408163265306, 0, 7)}, {vector(7, 7, 7), vector(20408163265306, 1, 0)}, {scalar(top), vector(1, 1)}, {scalar(top), vector(top, 0)}, {scalar(-top), vector(-top, 0)}, {scalar(top), vector(1, 1, 0)},
		// Products that wrap round to 0 or to a small number.
		{vector(1, 1<<32, 1<<32), vector(1, 0, 0)}, {scalar(1 << 32), vector(1<<32, 0)}, {scalar(1 << 32), vector(1<<32, 7)}, {scalar(3037000500), vector(3037000500, 0)}, {scalar(4294967296), vector(4294967297, 0)},
	} {
		decode(c.bases, c.digits).fails(t, impl.ErrLimit)
	}
}

func TestDecodeLists(t *testing.T) {
	good := []impl.Array{scalar(2), vector(), vector(1), vector(1, 2), vector(1, 2, 3)}
	for _, shape := range shapesUpTo(2) {
		for _, other := range good {
			if len(shape) >= 2 {
				for _, wrong := range []impl.Array{full(false, 1, shape...), full(true, 1, shape...), full(false, top, shape...)} {
					decode(wrong, other).fails(t, impl.ErrRank)
					decode(other, wrong).fails(t, impl.ErrRank)
				}
				continue
			}
			decode(full(true, 1, shape...), other).fails(t, impl.ErrDomain)
			decode(other, full(true, 1, shape...)).fails(t, impl.ErrDomain)
			decode(full(true, 1, shape...), full(true, 1, shape...)).fails(t, impl.ErrDomain)
		}
	}
	// What a is comes ahead of what b is.
	decode(letters("ab"), filled(false, 2, 2)).fails(t, impl.ErrDomain)
	decode(filled(false, 2, 2), letters("ab")).fails(t, impl.ErrRank)
	decode(filled(true, 2, 2), letters("ab")).fails(t, impl.ErrRank)
	decode(letters("ab"), filled(true, 2, 2)).fails(t, impl.ErrDomain)
	// Both come ahead of the lengths.
	decode(letters("abc"), vector(1, 2)).fails(t, impl.ErrDomain)
	decode(vector(1, 2), noLetter(0)).fails(t, impl.ErrDomain)
	decode(filled(false, 3, 1), vector(1, 2)).fails(t, impl.ErrRank)
}

func TestDecodeLengths(t *testing.T) {
	for _, m := range []int{0, 2, 3, 10, 9999, 10000} {
		for _, n := range []int{0, 2, 3, 10, 9999, 10000} {
			if m != n {
				decode(full(false, 1, m), full(false, 1, n)).fails(t, impl.ErrLength)
				// ErrLimit comes behind.
				decode(full(false, top, m), full(false, top, n)).fails(t, impl.ErrLength)
			}
		}
	}
}

func TestEncode(t *testing.T) {
	encode(vector(24, 60, 60), scalar(3661)).gives(t, vector(1, 1, 1))
	encode(vector(24, 60, 60), scalar(90061)).gives(t, vector(1, 1, 1))
	encode(vector(0, 24, 60, 60), scalar(90061)).gives(t, vector(1, 1, 1, 1))
	encode(vector(10, 10), vector(42, 107)).gives(t, numbers([]int{2, 2}, 4, 0, 2, 7))
	encode(vector(0, 10), scalar(1234)).gives(t, vector(123, 4))
	encode(scalar(10), scalar(1234)).gives(t, scalar(4))
	encode(vector(10), scalar(1234)).gives(t, vector(4))
	encode(scalar(10), vector(1234, 56, -7)).gives(t, vector(4, 6, 3))
	encode(scalar(0), vector(1234, -5)).gives(t, vector(1234, -5))
	encode(vector(2, 2, 2), numbers([]int{2, 2}, 0, 1, 5, 7)).gives(t, numbers([]int{3, 2, 2}, 0, 0, 1, 1, 0, 0, 0, 1, 0, 1, 1, 1))
	encode(vector(100, 7), scalar(0)).gives(t, vector(0, 0))
	encode(vector(7, 3), scalar(20)).gives(t, vector(6, 2))
	encode(vector(7, 3), scalar(21)).gives(t, vector(0, 0))
}

// TestEncodeWithBasesOfNoneAndOne has them at each place: 0 takes all that is left, and 1 takes nothing.
func TestEncodeWithBasesOfNoneAndOne(t *testing.T) {
	encode(vector(10, 10, 0), scalar(1234)).gives(t, vector(0, 0, 1234))
	encode(vector(10, 0, 10), scalar(1234)).gives(t, vector(0, 123, 4))
	encode(vector(0, 10, 10), scalar(1234)).gives(t, vector(12, 3, 4))
	encode(vector(0, 0, 10), scalar(1234)).gives(t, vector(0, 123, 4))
	encode(vector(0, 0, 0), scalar(1234)).gives(t, vector(0, 0, 1234))
	encode(vector(10, 10, 1), scalar(1234)).gives(t, vector(3, 4, 0))
	encode(vector(10, 1, 10), scalar(1234)).gives(t, vector(3, 0, 4))
	encode(vector(1, 10, 10), scalar(1234)).gives(t, vector(0, 3, 4))
	encode(vector(1, 1, 1), scalar(1234)).gives(t, vector(0, 0, 0))
	encode(vector(0, 1, 1), scalar(1234)).gives(t, vector(1234, 0, 0))
	encode(vector(1, 0, 1), scalar(-1234)).gives(t, vector(0, -1234, 0))
	encode(vector(1, 1, 0), scalar(-1234)).gives(t, vector(0, 0, -1234))
	encode(scalar(1), vector(5, -5, top, -top)).gives(t, vector(0, 0, 0, 0))
	encode(scalar(0), vector(5, -5, top, -top)).gives(t, vector(5, -5, top, -top))
}

func TestEncodeOfNumbersBelowZeroAndGreatOnes(t *testing.T) {
	encode(scalar(10), scalar(-3)).gives(t, scalar(7))
	encode(vector(10, 10), scalar(-1)).gives(t, vector(9, 9))
	encode(vector(10, 10), scalar(-10)).gives(t, vector(9, 0))
	encode(vector(10, 10), scalar(-11)).gives(t, vector(8, 9))
	encode(vector(10, 10), scalar(-100)).gives(t, vector(0, 0))
	encode(vector(0, 10), scalar(-1)).gives(t, vector(-1, 9))
	encode(vector(0, 10), scalar(-10)).gives(t, vector(-1, 0))
	encode(vector(0, 10), scalar(-11)).gives(t, vector(-2, 9))
	encode(vector(0, 24, 60, 60), scalar(-1)).gives(t, vector(-1, 23, 59, 59))
	encode(vector(2, 2, 2), scalar(-1)).gives(t, vector(1, 1, 1))
	encode(vector(0, top), vector(top, -top, top-1, -1, 1-top, 0)).gives(t, numbers([]int{2, 6}, 1, -1, 0, -1, -1, 0, 0, 0, top-1, top-1, 1, 0))
	encode(vector(0, top-1), vector(top, -top)).gives(t, numbers([]int{2, 2}, 1, -2, 1, top-2))
	encode(vector(0, 10), vector(top, -top)).gives(t, numbers([]int{2, 2}, top/10, -top/10, 0, 0))
	encode(vector(0, 2), vector(top-1, 1-top)).gives(t, numbers([]int{2, 2}, top/2-1, -top/2, 1, 1))
	encode(full(false, 10, 16), scalar(top)).gives(t, vector(append([]int{1}, make([]int, 15)...)...))
	encode(full(false, 10, 16), scalar(-top)).gives(t, vector(append([]int{9}, make([]int, 15)...)...))
	encode(full(false, 10, 15), scalar(top-1)).gives(t, full(false, 9, 15))
	encode(vector(top, top, top), scalar(-1)).gives(t, full(false, top-1, 3))
	encode(vector(1<<31, 1<<32), scalar(1<<32+7)).gives(t, vector(1, 7))
}

// TestEncodeOnEveryShape has for each element of b the digits that it has by itself.
func TestEncodeOnEveryShape(t *testing.T) {
	for _, shape := range shapesUpTo(2) {
		b := filled(false, shape...)
		for i := range b.Data {
			b.Data[i] = (i + 1) * 37 * (1 - i%3)
		}
		encode(scalar(10), b).answersLike(t, scalar2(impl.FnMod, scalar(10), b))
		encode(scalar(0), b).gives(t, b)
		for _, bases := range [][]int{{}, {10}, {0}, {3, 4}, {0, 10, 7}} {
			if len(shape) == impl.MaxRank {
				encode(vector(bases...), b).fails(t, impl.ErrLimit)
				continue
			}
			want := full(false, 0, append([]int{len(bases)}, shape...)...)
			for i, n := range b.Data {
				for place, digit := range answerOf(t, encode(vector(bases...), scalar(n))).Data {
					want.Data[place*len(b.Data)+i] = digit
				}
			}
			encode(vector(bases...), b).gives(t, want)
		}
	}
}

func TestEncodeWithoutElements(t *testing.T) {
	encode(vector(), scalar(5)).gives(t, none(0))
	encode(vector(), vector(5, 6)).gives(t, none(0, 2))
	encode(vector(), vector()).gives(t, none(0, 0))
	encode(vector(), filled(false, 2, 1, 2, 1)).gives(t, none(0, 2, 1, 2, 1))
	encode(vector(2, 2), vector()).gives(t, none(2, 0))
	encode(scalar(2), vector()).gives(t, vector())
	encode(scalar(2), none(3, 0)).gives(t, none(3, 0))
	encode(vector(2, 2, 2), none(3, 0)).gives(t, none(3, 3, 0))
	encode(vector(), none(0, 0, 0, 0)).gives(t, none(0, 0, 0, 0, 0))
}

func TestEncodeJustValidAndTooGreat(t *testing.T) {
	for _, c := range []struct{ bases, shape []int }{
		{slices.Repeat([]int{2}, 10000), nil}, {slices.Repeat([]int{2}, 100), []int{100}}, {slices.Repeat([]int{2}, 100), []int{10, 10}}, {[]int{2}, []int{10000}}, {[]int{2, 2}, []int{5000}}, {nil, []int{10000}}, {slices.Repeat([]int{2}, 10000), []int{0}}, {slices.Repeat([]int{2}, 100), []int{0, 100}}, {[]int{2}, []int{1, 1, 1, 1}}, {[]int{2, 0}, []int{10, 10, 10, 5}}, {nil, []int{0, 0, 0, 0}},
	} {
		got := answerOf(t, encode(vector(c.bases...), full(false, 0, c.shape...)))
		if !isAlike(got, full(false, 0, append([]int{len(c.bases)}, c.shape...)...)) {
			t.Errorf("Encode by %s of a %s: %s", listName(c.bases), listName(c.shape), arrayName(got))
		}
	}
	for _, c := range []struct{ bases, shape []int }{
		{slices.Repeat([]int{2}, 10000), []int{2}}, {slices.Repeat([]int{2}, 101), []int{100}}, {slices.Repeat([]int{2}, 100), []int{101}}, {slices.Repeat([]int{2}, 100), []int{10, 11}}, {[]int{2, 2}, []int{5001}}, {[]int{2, 2}, []int{10000}}, {slices.Repeat([]int{2}, 10000), []int{0, 2}}, {slices.Repeat([]int{2}, 101), []int{0, 100}}, {[]int{2}, []int{1, 1, 1, 1, 1}}, {nil, []int{1, 1, 1, 1, 1}}, {nil, []int{0, 0, 0, 0, 0}}, {[]int{2, 0, 1}, []int{10, 10, 10, 5}},
	} {
		encode(vector(c.bases...), full(false, 0, c.shape...)).fails(t, impl.ErrLimit)
	}
	// A scalar has no axis that would be one too many.
	encode(scalar(3), full(false, 5, 1, 1, 1, 1, 1)).gives(t, full(false, 2, 1, 1, 1, 1, 1))
	encode(scalar(3), full(false, 5, 100, 100)).gives(t, full(false, 2, 100, 100))
}

func TestEncodeCodes(t *testing.T) {
	numbersAndLetters := []impl.Array{scalar(5), vector(), vector(1, 2), filled(false, 2, 2), none(0, 3), letter('a'), noLetter(0), letters("ab"), filled(true, 1, 1, 1, 1, 1), filled(true, 100, 100)}
	for _, b := range numbersAndLetters {
		for _, shape := range shapesUpTo(2) {
			if len(shape) >= 2 {
				encode(full(false, 2, shape...), b).fails(t, impl.ErrRank)
				encode(full(false, -2, shape...), b).fails(t, impl.ErrRank)
				encode(full(true, 2, shape...), b).fails(t, impl.ErrRank)
			}
		}
		for _, a := range []impl.Array{full(true, 2), noLetter(0), letters("ab"), full(true, 2, 10000)} {
			encode(a, b).fails(t, impl.ErrDomain)
		}
		for _, n := range []int{-1, -10, -1 << 32, -top} {
			for _, a := range []impl.Array{scalar(n), vector(n), vector(n, 2, 3), vector(2, n, 3), vector(2, 3, n), vector(0, n)} {
				encode(a, b).fails(t, impl.ErrDomain)
			}
			// No valid array would have the shape, which is asked behind.
			encode(full(false, n, 10000), b).fails(t, impl.ErrDomain)
		}
		if b.Char {
			for _, a := range []impl.Array{scalar(2), vector(), vector(2), vector(2, 2), full(false, 2, 10000)} {
				encode(a, b).fails(t, impl.ErrDomain)
			}
		}
	}
}
