package tests

import (
	"math"
	"slices"
	"strconv"
	"testing"

	"loop.example/s02542/impl"
)

// goodCharacters are the first and last of each length in UTF-8, those beside the ones that are none, and some that other texts treat apart.
var goodCharacters = []int{0, 9, 10, 13, 32, 39, 65, 126, 127, 128, 175, 0x7FF, 0x800, 9077, 0xD7FF, 0xE000, 0xFEFF, 0xFFFD, 0xFFFE, 0xFFFF, 0x10000, 128512, 0x10FFFE, 0x10FFFF}

// badCharacters hold some whose lower half alone, or whose value without its sign, is a character.
var badCharacters = []int{-1, -97, 0xD800, 0xD801, 0xDBFF, 0xDC00, 0xDFFF, 0x110000, 1<<31 + 97, 1<<32 + 97, -1<<32 + 97, impl.MaxInt, -impl.MaxInt, math.MaxInt, math.MinInt}

var goodNumbers = []int{0, 1, -1, 9, 10, -9, -10, 99, 100, -99, 97, 55296, 1114112, impl.MaxInt - 1, impl.MaxInt, -impl.MaxInt + 1, -impl.MaxInt}
var badNumbers = []int{impl.MaxInt + 1, -impl.MaxInt - 1, 2 * impl.MaxInt, math.MaxInt, math.MinInt}

func numbers(shape []int, data ...int) impl.Array {
	return impl.Array{Shape: shape, Data: data}
}

func characters(shape []int, text string) impl.Array {
	a := impl.Array{Char: true, Shape: shape}
	for _, r := range text {
		a.Data = append(a.Data, int(r))
	}
	return a
}

// filled has the numbers from 1 on, or the letters from a to z over and over again, as many as its shape asks for.
func filled(isChar bool, shape ...int) impl.Array {
	a := impl.Array{Char: isChar, Shape: shape}
	count := 1
	for _, length := range shape {
		count *= length
	}
	for i := range count {
		if isChar {
			a.Data = append(a.Data, 'a'+i%26)
		} else {
			a.Data = append(a.Data, i+1)
		}
	}
	return a
}

// copyArray has lists of its own, each with room behind its end that holds a mark.
func copyArray(a impl.Array) impl.Array {
	return impl.Array{Char: a.Char, Shape: copyList(a.Shape), Data: copyList(a.Data)}
}

const roomMark = 424242

func copyList(list []int) []int {
	return append(slices.Clone(list), roomMark, roomMark)[:len(list)]
}

func isUntouched(got impl.Array, was impl.Array) bool {
	return got.Char == was.Char && isListUntouched(got.Shape, was.Shape) && isListUntouched(got.Data, was.Data)
}

func isListUntouched(got []int, was []int) bool {
	room := got[len(got) : len(got)+2]
	return slices.Equal(got, was) && room[0] == roomMark && room[1] == roomMark
}

// shapesUpTo are all shapes of at most MaxRank numbers that are at most a greatest one.
func shapesUpTo(greatest int) [][]int {
	all := [][]int{{}}
	last := all
	for range impl.MaxRank {
		var next [][]int
		for _, shape := range last {
			for length := range greatest + 1 {
				next = append(next, append(slices.Clone(shape), length))
			}
		}
		all = append(all, next...)
		last = next
	}
	return all
}

// array is mostly valid, but now and then wrong in one way.
func (g grower) array() impl.Array {
	a := impl.Array{Char: g.IntN(2) == 0}
	count := 1
	for range g.IntN(impl.MaxRank + 1) {
		length := 1 + g.IntN(4)
		if g.IntN(12) == 0 {
			length = 0
		}
		a.Shape = append(a.Shape, length)
		count *= length
	}
	if g.IntN(20) == 0 {
		count += g.IntN(3) - 1
	}
	for range count {
		a.Data = append(a.Data, g.element(a.Char))
	}
	if g.IntN(20) == 0 {
		g.spoil(&a)
	}
	return a
}

func (g grower) element(isChar bool) int {
	if isChar {
		return pick(g, goodCharacters...)
	}
	if g.IntN(10) == 0 {
		return pick(g, goodNumbers...)
	}
	greatest := pick(g, 3, 20, 200, 100000)
	return g.IntN(2*greatest+1) - greatest
}

func (g grower) spoil(a *impl.Array) {
	switch g.IntN(4) {
	case 0:
		a.Char = !a.Char
	case 1:
		a.Shape = append(a.Shape, 1)
	case 2:
		if len(a.Shape) > 0 {
			a.Shape[g.IntN(len(a.Shape))] = pick(g, -1, 0, 1, impl.MaxCells, impl.MaxCells+1, math.MinInt, math.MaxInt)
		}
	case 3:
		if len(a.Data) > 0 {
			a.Data[g.IntN(len(a.Data))] = pick(g, slices.Concat(badNumbers, badCharacters)...)
		}
	}
}

func arrayName(a impl.Array) string {
	kind := "numbers"
	if a.Char {
		kind = "characters"
	}
	return kind + " " + listName(a.Shape) + " of " + listName(a.Data)
}

func listName(list []int) string {
	text := "["
	for i, n := range list {
		if i == 40 {
			return text + " .. " + strconv.Itoa(len(list)) + " in all]"
		}
		text += " " + strconv.Itoa(n)
	}
	return text + " ]"
}

func wantOk(t *testing.T, a impl.Array) {
	t.Helper()
	own := copyArray(a)
	if !impl.ArrayOk(own) {
		t.Errorf("%s is not ok", arrayName(a))
	}
	if !impl.Same(own, copyArray(a)) || !impl.Same(own, own) {
		t.Errorf("%s is not the same as itself", arrayName(a))
	}
	if !isUntouched(own, a) {
		t.Errorf("%s was written into", arrayName(a))
	}
}

// wantNotOk asks all three functions, as none of them may take what is not valid.
func wantNotOk(t *testing.T, a impl.Array) {
	t.Helper()
	own, other := copyArray(a), copyArray(a)
	scalar := numbers(nil, 7)
	if impl.ArrayOk(own) {
		t.Errorf("%s is ok", arrayName(a))
	}
	if impl.Same(own, other) || impl.Same(own, own) || impl.Same(own, scalar) || impl.Same(scalar, own) {
		t.Errorf("%s is the same as something", arrayName(a))
	}
	if text := impl.Show(own); len(text) != 0 {
		t.Errorf("%s has the text %q", arrayName(a), text)
	}
	if !isUntouched(own, a) || !isUntouched(other, a) {
		t.Errorf("%s was written into", arrayName(a))
	}
}
