package tests

import (
	"math"
	"slices"
	"testing"

	"loop.example/s02542/impl"
)

func TestArrayOkOfEveryRank(t *testing.T) {
	for _, isChar := range []bool{false, true} {
		for _, shape := range [][]int{{}, {1}, {5}, {2, 3}, {1, 1}, {2, 3, 4}, {2, 1, 3, 1}, {3, 1, 2, 2, 2}, {1, 1, 1, 1, 1}} {
			wantOk(t, filled(isChar, shape...))
		}
		wantNotOk(t, filled(isChar, 1, 1, 1, 1, 1, 1))
		wantNotOk(t, filled(isChar, 2, 1, 2, 1, 2, 1))
		wantNotOk(t, filled(isChar, 2, 1, 2, 1, 2, 0))
		wantNotOk(t, filled(isChar, make([]int, impl.MaxRank+1)...))
		wantNotOk(t, filled(isChar, make([]int, 100000)...))
	}
	if impl.MaxRank != 5 || impl.MaxCells != 10000 {
		t.Error("the bounds are not the document's")
	}
}

func TestArrayOkWithoutElements(t *testing.T) {
	for _, shape := range shapesUpTo(2) {
		if !slices.Contains(shape, 0) {
			continue
		}
		for _, isChar := range []bool{false, true} {
			wantOk(t, filled(isChar, shape...))
			wantNotOk(t, impl.Array{Char: isChar, Shape: shape, Data: []int{65}})
		}
	}
}

func TestArrayOkNumberOfCells(t *testing.T) {
	for _, isChar := range []bool{false, true} {
		for _, shape := range [][]int{{10000}, {100, 100}, {10000, 1}, {1, 10000}, {2, 5000}, {10, 1000, 1}, {20, 20, 25}, {10, 10, 10, 10}, {1, 1, 1, 1, 10000}, {10, 5, 10, 2, 10}} {
			wantOk(t, filled(isChar, shape...))
		}
		for _, shape := range [][]int{{10001}, {73, 137}, {10001, 1}, {1, 10001}, {137, 1, 73}, {1, 73, 1, 137, 1}, {2, 5001}, {5001, 2}, {101, 100}, {10, 10, 10, 11}} {
			wantNotOk(t, filled(isChar, shape...))
		}
	}
}

// TestArrayOkProductWithoutItsZeros puts the 0 at each place of a shape.
func TestArrayOkProductWithoutItsZeros(t *testing.T) {
	good := [][]int{{}, {1}, {10000}, {9999}, {100, 100}, {1, 10000}, {10000, 1}, {5000, 2}, {20, 20, 25}, {10, 10, 10, 10}, {1, 1, 1, 10000}}
	bad := [][]int{{10001}, {2, 10000}, {10000, 2}, {101, 100}, {5001, 2}, {73, 137}, {20, 20, 26}, {10000, 10000}, {10000, 10000, 10000, 10000}, {10, 10, 10, 11}, {2, 1, 1, 10000}}
	for _, isChar := range []bool{false, true} {
		for _, shape := range good {
			for place := range len(shape) + 1 {
				wantOk(t, filled(isChar, slices.Insert(slices.Clone(shape), place, 0)...))
			}
		}
		for _, shape := range bad {
			for place := range len(shape) + 1 {
				wantNotOk(t, filled(isChar, slices.Insert(slices.Clone(shape), place, 0)...))
			}
		}
		wantOk(t, filled(isChar, 0, 100, 0, 100, 0))
		wantNotOk(t, filled(isChar, 0, 100, 0, 101, 0))
	}
}

func TestArrayOkNumbersInShape(t *testing.T) {
	wrong := []int{-1, -2, -impl.MaxCells, impl.MaxCells + 1, 1 << 31, 1 << 32, 1<<32 + 1, -1 << 32, math.MaxInt, math.MinInt, math.MinInt + 1}
	for _, n := range wrong {
		for rank := 1; rank <= impl.MaxRank; rank++ {
			for place := range rank {
				for _, other := range []int{0, 1, 2} {
					shape := slices.Repeat([]int{other}, rank)
					shape[place] = n
					for _, count := range []int{0, 1, 2, 16} {
						wantNotOk(t, impl.Array{Shape: shape, Data: make([]int, count)})
						wantNotOk(t, impl.Array{Char: true, Shape: shape, Data: make([]int, count)})
					}
				}
			}
		}
	}
}

// TestArrayOkProductsThatWrapRound has shapes whose product, reckoned in an int of 64 or 32 bits, is the number of Data.
func TestArrayOkProductsThatWrapRound(t *testing.T) {
	for _, c := range []struct {
		count int
		shape []int
	}{
		{0, []int{8192, 8192, 8192, 8192, 8192}}, {0, []int{4096, 8192, 8192, 8192, 8192}}, {0, []int{10000, 10000, 10000, 10000, 10000}}, {0, []int{10000, 10000, 10000, 10000}},
		{0, []int{1 << 32, 1 << 32}}, {0, []int{1 << 62, 4}}, {0, []int{math.MinInt, 2}}, {0, []int{1 << 16, 1 << 16, 1 << 16, 1 << 16}}, {0, []int{256, 4096, 4096}}, {0, []int{8192, 8192, 64}},
		{2, []int{3, 6148914691236517206}}, {1, []int{-1, -1}}, {6, []int{-2, -3}}, {6, []int{-2, 1, -3, 1, 1}}, {4, []int{-1, 2, -2}}, {1, []int{math.MaxInt, math.MaxInt}}, {1, []int{-1, -1, -1, -1}},
		{0, []int{0, 8192, 8192, 8192, 8192}}, {0, []int{8192, 8192, 0, 8192, 8192}}, {0, []int{-1, 0, -1}}, {0, []int{0, 10000, 10000, 10000, 10000}},
	} {
		turned := slices.Clone(c.shape)
		slices.Reverse(turned)
		for _, shape := range [][]int{c.shape, turned} {
			wantNotOk(t, impl.Array{Shape: shape, Data: make([]int, c.count)})
			wantNotOk(t, impl.Array{Char: true, Shape: shape, Data: make([]int, c.count)})
		}
	}
}

func TestArrayOkNumberOfData(t *testing.T) {
	for _, shape := range shapesUpTo(2) {
		for _, isChar := range []bool{false, true} {
			a := filled(isChar, shape...)
			count := len(a.Data)
			a.Data = append(a.Data, 65)
			wantNotOk(t, a)
			a.Data = append(a.Data, slices.Repeat([]int{65}, count)...)
			wantNotOk(t, a)
			if count > 0 {
				a.Data = a.Data[:count-1]
				wantNotOk(t, a)
				a.Data = nil
				wantNotOk(t, a)
			}
		}
	}
	wantNotOk(t, impl.Array{})
	wantNotOk(t, impl.Array{Char: true})
	wantNotOk(t, impl.Array{Shape: []int{10000}, Data: make([]int, 9999)})
	wantNotOk(t, impl.Array{Shape: []int{10000}, Data: make([]int, 10001)})
	wantNotOk(t, impl.Array{Shape: []int{2}, Data: make([]int, 1000000)})
}

func TestArrayOkElements(t *testing.T) {
	for _, c := range []struct {
		isChar    bool
		good, bad []int
	}{{false, goodNumbers, badNumbers}, {true, goodCharacters, badCharacters}} {
		for _, shape := range [][]int{{}, {1}, {3}, {2, 2}, {2, 1, 3}, {1, 2, 1, 2}, {1, 1, 2, 1, 2}} {
			a := filled(c.isChar, shape...)
			for place := range a.Data {
				b := copyArray(a)
				for _, n := range c.good {
					b.Data[place] = n
					wantOk(t, b)
				}
				for _, n := range c.bad {
					b.Data[place] = n
					wantNotOk(t, b)
				}
			}
		}
	}
}

// TestArrayOkEveryCharacter holds the bounds of chapter 1 against each number up to a little above them.
func TestArrayOkEveryCharacter(t *testing.T) {
	for n := -10; n < 0x110010; n++ {
		want := n >= 0 && n <= 0x10FFFF && (n < 0xD800 || n > 0xDFFF)
		a := impl.Array{Char: true, Data: []int{n}}
		if impl.ArrayOk(a) != want {
			t.Fatalf("character %d: ok is %v", n, !want)
		}
		if got := impl.Show(a); want && string(got) != string(rune(n))+"\n" || !want && len(got) != 0 {
			t.Fatalf("character %d: shown as %q", n, got)
		}
	}
}

func TestArrayOkNumbersThatAreNoCharacters(t *testing.T) {
	for _, n := range []int{-1, 55296, 57343, 1114112, impl.MaxInt, -impl.MaxInt} {
		for _, shape := range [][]int{{}, {1}, {1, 1}} {
			wantOk(t, impl.Array{Shape: shape, Data: []int{n}})
			wantNotOk(t, impl.Array{Char: true, Shape: shape, Data: []int{n}})
		}
	}
}

func wantSame(t *testing.T, a impl.Array, b impl.Array, want bool) {
	t.Helper()
	ownA, ownB := copyArray(a), copyArray(b)
	if impl.Same(ownA, ownB) != want || impl.Same(ownB, ownA) != want {
		t.Errorf("Same(%s, %s) is not %v both ways round", arrayName(a), arrayName(b), want)
	}
	if !isUntouched(ownA, a) || !isUntouched(ownB, b) {
		t.Errorf("%s or %s was written into", arrayName(a), arrayName(b))
	}
}

func TestSameCharAlone(t *testing.T) {
	for _, shape := range shapesUpTo(2) {
		a := filled(true, shape...)
		b := copyArray(a)
		b.Char = false
		wantOk(t, a)
		wantOk(t, b)
		wantSame(t, a, b, false)
	}
}

func TestSameShapeAlone(t *testing.T) {
	for _, isChar := range []bool{false, true} {
		for _, group := range [][][]int{
			{{}, {1}, {1, 1}, {1, 1, 1}, {1, 1, 1, 1}, {1, 1, 1, 1, 1}},
			{{6}, {1, 6}, {6, 1}, {2, 3}, {3, 2}, {1, 2, 3}, {2, 1, 3}, {2, 3, 1}, {3, 2, 1}, {1, 1, 1, 2, 3}},
			{{0}, {0, 0}, {0, 1}, {1, 0}, {0, 2}, {2, 0}, {0, 1, 1}, {1, 0, 1}, {1, 1, 0}, {0, 0, 0, 0, 0}, {10000, 0}},
		} {
			for i, shape := range group {
				for j, other := range group {
					wantSame(t, filled(isChar, shape...), filled(isChar, other...), i == j)
				}
			}
		}
	}
}

func TestSameDataAlone(t *testing.T) {
	for _, shape := range shapesUpTo(2) {
		for _, isChar := range []bool{false, true} {
			a := filled(isChar, shape...)
			for place := range a.Data {
				b := copyArray(a)
				b.Data[place]++
				wantSame(t, a, b, false)
			}
		}
	}
	wantSame(t, numbers([]int{2}, 1, 2), numbers([]int{2}, 2, 1), false)
	wantSame(t, numbers(nil, 5), numbers(nil, -5), false)
	wantSame(t, numbers(nil, 1), numbers(nil, 1<<32+1), false)
}

func TestSameDoesNotAskForNil(t *testing.T) {
	wantSame(t, impl.Array{Data: []int{5}}, impl.Array{Shape: []int{}, Data: []int{5}}, true)
	wantSame(t, impl.Array{Shape: []int{0}}, impl.Array{Shape: []int{0}, Data: []int{}}, true)
	if !impl.Same(impl.Array{Shape: []int{0}}, impl.Array{Shape: []int{0}, Data: []int{}}) || !impl.Same(impl.Array{Data: []int{5}}, impl.Array{Shape: []int{}, Data: []int{5}}) {
		t.Error("an empty list and nil are told apart")
	}
}

func TestSameOfWhatIsNotValid(t *testing.T) {
	valid := numbers([]int{2}, 1, 2)
	for _, wrong := range []impl.Array{
		{}, {Shape: []int{2}, Data: []int{1}}, {Shape: []int{2}, Data: []int{1, 2, 3}}, {Shape: []int{-1}, Data: []int{1, 2}}, {Shape: []int{2, 1, 1, 1, 1, 1}, Data: []int{1, 2}},
		{Shape: []int{2}, Data: []int{1, impl.MaxInt + 1}}, {Char: true, Shape: []int{2}, Data: []int{1, -2}},
	} {
		wantSame(t, wrong, wrong, false)
		wantSame(t, wrong, valid, false)
	}
}
