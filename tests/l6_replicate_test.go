package tests

import (
	"slices"
	"testing"

	"loop.example/s02542/impl"
)

func TestReplicate(t *testing.T) {
	for _, first := range bothEnds {
		replicate(vector(1, 0, 2), vector(7, 8, 9), first).gives(t, vector(7, 9, 9))
		replicate(vector(0, 1, 0), letters("abc"), first).gives(t, letters("b"))
		replicate(vector(3, 2, 1), letters("abc"), first).gives(t, letters("aaabbc"))
		replicate(scalar(2), vector(1, 2), first).gives(t, vector(1, 1, 2, 2))
		replicate(vector(2), vector(1, 2), first).gives(t, vector(1, 1, 2, 2))
		replicate(vector(top), none(0), first).gives(t, none(0))
	}
	square := filled(false, 2, 2)
	replicate(vector(0, 2), square, false).gives(t, numbers([]int{2, 2}, 2, 2, 4, 4))
	replicate(vector(0, 2), square, true).gives(t, numbers([]int{2, 2}, 3, 4, 3, 4))
	replicate(vector(1, 2), square, false).gives(t, numbers([]int{2, 3}, 1, 2, 2, 3, 4, 4))
	replicate(vector(1, 2), square, true).gives(t, numbers([]int{3, 2}, 1, 2, 3, 4, 3, 4))
	replicate(vector(1, 0, 1), filled(true, 2, 3), false).gives(t, characters([]int{2, 2}, "acdf"))
	replicate(vector(2, 1), filled(true, 2, 3), true).gives(t, characters([]int{3, 3}, "abcabcdef"))
	replicate(vector(0, 1), filled(false, 2, 2, 2), false).gives(t, numbers([]int{2, 2, 1}, 2, 4, 6, 8))
	replicate(vector(0, 1), filled(false, 2, 2, 2), true).gives(t, numbers([]int{1, 2, 2}, 5, 6, 7, 8))
	replicate(scalar(3), filled(false, 2, 1), false).gives(t, numbers([]int{2, 3}, 1, 1, 1, 2, 2, 2))
	replicate(scalar(2), filled(false, 2, 1), true).gives(t, numbers([]int{4, 1}, 1, 1, 2, 2))
}

// TestReplicateOfScalars takes them as vectors of one, for which k is as long as it likes.
func TestReplicateOfScalars(t *testing.T) {
	for _, first := range bothEnds {
		for _, a := range []impl.Array{scalar(4), letter('x')} {
			n := a.Data[0]
			replicate(vector(1, 2, 0), a, first).gives(t, full(a.Char, n, 3))
			replicate(vector(), a, first).gives(t, full(a.Char, n, 0))
			replicate(vector(0, 0, 0), a, first).gives(t, full(a.Char, n, 0))
			for _, k := range []int{0, 1, 2, 9999, 10000} {
				replicate(scalar(k), a, first).gives(t, full(a.Char, n, k))
				replicate(vector(k), a, first).gives(t, full(a.Char, n, k))
				replicate(vector(0, k), a, first).gives(t, full(a.Char, n, k))
			}
			for _, k := range []impl.Array{scalar(10001), vector(10001), vector(1, 10000), vector(10000, 1), scalar(top), vector(top, top), upTo(10000)} {
				replicate(k, a, first).fails(t, impl.ErrLimit)
			}
			replicate(full(false, 1, 10000), a, first).gives(t, full(a.Char, n, 10000))
			replicate(scalar(-1), a, first).fails(t, impl.ErrDomain)
		}
	}
}

// replicatedAlong has along one axis the elements whose numbers, from 0 on, are given.
func replicatedAlong(a impl.Array, axis int, list []int) impl.Array {
	result := full(a.Char, 0, replacedAt(a.Shape, axis, len(list))...)
	for i, index := range indexesOf(result.Shape) {
		result.Data[i] = elementAt(a, replacedAt(index, axis, list[index[axis]]))
	}
	return result
}

// TestReplicateOnEveryShape has axes of 0, 1, 2 and 3 at either end, with k of no, of one and of as many elements as the axis has, and of more beside an axis of 1.
func TestReplicateOnEveryShape(t *testing.T) {
	for _, shape := range slices.Concat(shapesUpTo(2), [][]int{{3}, {3, 1}, {1, 3}, {2, 3}, {3, 2}, {3, 0, 3}, {3, 1, 1, 1, 3}}) {
		if len(shape) == 0 {
			continue
		}
		for _, a := range both(shape...) {
			for _, first := range bothEnds {
				axis := axisPlace(a, first)
				for _, k := range [][]int{{}, {0}, {1}, {2}, {3}, {0, 0}, {1, 1}, {0, 1}, {2, 0}, {1, 3}, {0, 0, 0}, {1, 1, 1}, {2, 0, 1}, {0, 1, 0, 1}} {
					var list []int
					switch length := shape[axis]; {
					case len(k) == 1:
						for i := range length {
							list = append(list, slices.Repeat([]int{i}, k[0])...)
						}
					case length == 1:
						for _, n := range k {
							list = append(list, make([]int, n)...)
						}
					case len(k) == length:
						for i, n := range k {
							list = append(list, slices.Repeat([]int{i}, n)...)
						}
					default:
						replicate(vector(k...), a, first).fails(t, impl.ErrLength)
						continue
					}
					replicate(vector(k...), a, first).gives(t, replicatedAlong(a, axis, list))
					if len(k) == 1 {
						replicate(scalar(k[0]), a, first).gives(t, replicatedAlong(a, axis, list))
					}
				}
			}
		}
	}
}

// TestReplicateByNoneLeavesNoElements keeps the other axes and the kind.
func TestReplicateByNoneLeavesNoElements(t *testing.T) {
	for _, shape := range shapesUpTo(2) {
		if len(shape) == 0 {
			continue
		}
		for _, a := range both(shape...) {
			for _, first := range bothEnds {
				axis := axisPlace(a, first)
				want := full(a.Char, 0, replacedAt(shape, axis, 0)...)
				replicate(scalar(0), a, first).gives(t, want)
				replicate(full(false, 0, shape[axis]), a, first).gives(t, want)
			}
		}
	}
}

func TestReplicateJustValidAndTooGreat(t *testing.T) {
	for _, c := range []struct {
		k, a  impl.Array
		first bool
		shape []int
	}{
		{scalar(5000), vector(1, 2), false, []int{10000}}, {vector(9999, 1), vector(1, 2), false, []int{10000}}, {vector(10000, 0), letters("ab"), true, []int{10000}}, {scalar(10000), vector(7), true, []int{10000}}, {scalar(1), upTo(10000), false, []int{10000}},
		{scalar(100), filled(false, 100, 1), false, []int{100, 100}}, {scalar(100), filled(false, 1, 100), true, []int{100, 100}}, {vector(50, 50), filled(true, 100, 2), false, []int{100, 100}}, {vector(50, 50), filled(true, 2, 100), true, []int{100, 100}},
		{vector(10000), none(0, 1), false, []int{0, 10000}}, {vector(10000), noLetter(1, 0), true, []int{10000, 0}}, {vector(100, 0), none(100, 0, 2), false, []int{100, 0, 100}}, {vector(60, 40), none(2, 0, 100), true, []int{100, 0, 100}},
		{scalar(2), filled(false, 10, 10, 10, 5, 1), false, []int{10, 10, 10, 5, 2}}, {scalar(2), filled(false, 1, 10, 10, 10, 5), true, []int{2, 10, 10, 10, 5}},
	} {
		if got := answerOf(t, replicate(c.k, c.a, c.first)); !slices.Equal(got.Shape, c.shape) || got.Char != c.a.Char {
			t.Errorf("Replicate by %s of %s: %s", arrayName(c.k), arrayName(c.a), arrayName(got))
		}
	}
	for _, c := range []call{
		replicate(scalar(5001), vector(1, 2), false), replicate(vector(9999, 2), vector(1, 2), false), replicate(vector(10000, 1), letters("ab"), true), replicate(scalar(10001), vector(7), true), replicate(scalar(2), upTo(10000), false), replicate(scalar(2), upTo(5001), false),
		replicate(scalar(101), filled(false, 100, 1), false), replicate(scalar(101), filled(false, 1, 100), true), replicate(vector(50, 51), filled(true, 100, 2), false), replicate(vector(51, 50), filled(true, 2, 100), true),
		// Also without elements, by the product of those axes that are not 0.
		replicate(vector(10001), none(0, 1), false), replicate(vector(10001), noLetter(1, 0), true), replicate(vector(100, 1), none(100, 0, 2), false), replicate(vector(60, 41), none(2, 0, 100), true), replicate(scalar(2), none(0, 10000), false), replicate(scalar(2), none(10000, 0), true),
		replicate(scalar(3), filled(false, 10, 10, 10, 5, 1), false), replicate(scalar(3), filled(false, 1, 10, 10, 10, 5), true),
	} {
		c.fails(t, impl.ErrLimit)
	}
}

// TestReplicateByGreatNumbers has sums of which an int does not hold all.
func TestReplicateByGreatNumbers(t *testing.T) {
	for _, first := range bothEnds {
		for _, k := range []int{10001, 1 << 31, 1 << 32, 1<<32 + 1, top - 1, top} {
			for _, a := range []impl.Array{vector(7), vector(1, 2, 3), letters("ab"), upTo(10000), filled(false, 2, 2), none(2, 0, 2), noLetter(1, 0, 1)} {
				replicate(scalar(k), a, first).fails(t, impl.ErrLimit)
				replicate(full(false, k, axisLength(a.Shape, first)), a, first).fails(t, impl.ErrLimit)
			}
			// One alone is great, at either end.
			replicate(vector(k, 0, 0), vector(1, 2, 3), first).fails(t, impl.ErrLimit)
			replicate(vector(0, 0, k), vector(1, 2, 3), first).fails(t, impl.ErrLimit)
		}
		// 9224 times top is the first above 2 to the power 63.
		for _, c := range []struct{ count, n int }{{9223, top}, {9224, top}, {10000, top}, {10000, 922337203685477}, {10000, 922337203685478}, {8192, 1 << 49}, {4096, 1 << 49}} {
			replicate(scalar(c.n), upTo(c.count), first).fails(t, impl.ErrLimit)
			replicate(full(false, c.n, c.count), upTo(c.count), first).fails(t, impl.ErrLimit)
		}
		// Along an axis of none it is taken no times.
		replicate(scalar(top), none(0), first).gives(t, none(0))
		replicate(vector(top), noLetter(0), first).gives(t, noLetter(0))
		replicate(scalar(top), none(0, 3, 0), first).gives(t, none(0, 3, 0))
	}
}

func TestReplicateLists(t *testing.T) {
	for _, a := range []impl.Array{scalar(7), letter('a'), vector(), vector(1, 2), letters("abc"), filled(false, 2, 2), none(0, 2), filled(true, 1, 2, 1, 2, 1)} {
		for _, first := range bothEnds {
			for _, shape := range shapesUpTo(2) {
				if len(shape) >= 2 {
					for _, n := range []int{-1, 0, 1, 20000} {
						replicate(full(false, n, shape...), a, first).fails(t, impl.ErrRank)
					}
					replicate(full(true, 1, shape...), a, first).fails(t, impl.ErrRank)
				}
			}
			for _, count := range []int{0, 1, 2, 3, 4, 5, 10000} {
				// Being a list of numbers is asked ahead of the length.
				replicate(full(true, 1, count), a, first).fails(t, impl.ErrDomain)
			}
			replicate(full(true, 1), a, first).fails(t, impl.ErrDomain)
			replicate(noLetter(0), a, first).fails(t, impl.ErrDomain)
		}
	}
}

func TestReplicateLengths(t *testing.T) {
	for _, first := range bothEnds {
		for _, length := range []int{0, 2, 3, 4, 100} {
			for _, a := range append(both(length), filled(false, length, length), none(length, 0, length)) {
				for _, count := range []int{0, 2, 3, 4, 5, 99, 101, 10000} {
					if count == length {
						continue
					}
					// ErrLength comes ahead of what the numbers are.
					for _, n := range []int{0, 1, -1, 10001, -top, top} {
						replicate(full(false, n, count), a, first).fails(t, impl.ErrLength)
					}
				}
			}
		}
		// The axis that is not gone along has the length that is asked for.
		replicate(full(false, 1, 3), filled(false, 3, 2), false).fails(t, impl.ErrLength)
		replicate(full(false, 1, 3), filled(false, 2, 3), true).fails(t, impl.ErrLength)
		replicate(full(false, 1, 3), filled(false, 2, 3, 2), first).fails(t, impl.ErrLength)
	}
}

func TestReplicateNumbersBelowZero(t *testing.T) {
	for _, first := range bothEnds {
		for _, n := range []int{-1, -2, -10000, -1 << 32, -top} {
			for _, k := range []impl.Array{scalar(n), vector(n), vector(n, 1, 1), vector(0, n, 2), vector(1, 1, n), vector(n, n, n), vector(n, -n, 1), vector(top, n, top), vector(n, 10001, 0)} {
				replicate(k, vector(1, 2, 3), first).fails(t, impl.ErrDomain)
				replicate(k, letter('x'), first).fails(t, impl.ErrDomain)
				replicate(k, filled(false, 3, 3, 3), first).fails(t, impl.ErrDomain)
				replicate(k, filled(true, 1, 1), first).fails(t, impl.ErrDomain)
				replicate(k, none(3, 0, 3), first).fails(t, impl.ErrDomain)
			}
			// Asked of k itself, also where it is taken no times.
			replicate(scalar(n), none(0), first).fails(t, impl.ErrDomain)
			replicate(vector(n), noLetter(0, 0), first).fails(t, impl.ErrDomain)
		}
	}
}
