package tests

import (
	"math/rand/v2"
	"slices"
	"testing"

	"loop.example/s02542/impl"
)

// answerOf makes a call that has no code.
func answerOf(t *testing.T, c call) impl.Array {
	t.Helper()
	got, code := c.answer(t)
	if code != 0 {
		t.Fatalf("%s: code %d", c, code)
	}
	return got
}

// manyArrays are of every rank, of numbers and of characters, with and without elements.
func manyArrays() []impl.Array {
	var many []impl.Array
	for _, shape := range slices.Concat(shapesUpTo(2), [][]int{{3}, {7}, {100}, {3, 4}, {4, 3}, {5, 0}, {2, 3, 4}, {4, 1, 3}, {3, 2, 1, 4}, {2, 3, 1, 2, 4}, {5, 4, 3, 2, 1}}) {
		many = append(many, both(shape...)...)
	}
	return many
}

// undone is the list that turns back what another list turns.
func undone(order []int) []int {
	back := make([]int, len(order))
	for i, number := range order {
		back[number-1] = i + 1
	}
	return back
}

// TestTurningThereAndBack is of promise 6.
func TestTurningThereAndBack(t *testing.T) {
	for _, a := range manyArrays() {
		for _, order := range ordersOf(len(a.Shape)) {
			turned := answerOf(t, transpose(vector(order...), a))
			transpose(vector(undone(order)...), turned).gives(t, a)
		}
	}
}

// TestRotatingThereAndBack is of promise 6.
func TestRotatingThereAndBack(t *testing.T) {
	for _, a := range manyArrays() {
		for _, first := range bothEnds {
			for _, k := range []int{0, 1, 2, 3, 5, 10, -1, -2, -7, 1 << 32, top, top - 1, -top} {
				rotated := answerOf(t, rotate(scalar(k), a, first))
				rotate(scalar(-k), rotated, first).gives(t, a)
			}
			length := axisLength(a.Shape, first)
			rotate(scalar(length), a, first).gives(t, a)
			rotate(scalar(-3*length), a, first).gives(t, a)
		}
	}
}

// TestReversingTwice is of promise 6, along each axis in turn, by the numbers that Index picks.
func TestReversingTwice(t *testing.T) {
	for _, a := range manyArrays() {
		for axis, length := range a.Shape {
			parts := allOf(len(a.Shape))
			backwards := upTo(length)
			slices.Reverse(backwards.Data)
			parts[axis] = at(backwards)
			reversed := answerOf(t, index(a, parts...))
			index(reversed, parts...).gives(t, a)
			replace(a, reversed, parts...).gives(t, a)
		}
	}
}

// TestTakeAndDropAreTheVector is of promise 6.
func TestTakeAndDropAreTheVector(t *testing.T) {
	for _, length := range []int{0, 1, 2, 3, 10, 101} {
		for _, a := range both(length) {
			for k := range length + 1 {
				catenate(answerOf(t, take(scalar(k), a)), answerOf(t, drop(scalar(k), a))).gives(t, a)
				catenate(answerOf(t, drop(scalar(-k), a)), answerOf(t, take(scalar(-k), a))).gives(t, a)
				catenate(answerOf(t, take(vector(k), a)), answerOf(t, drop(vector(k), a))).gives(t, a)
			}
		}
	}
}

// TestTakeAndDropAreTheArray joins along the last axis, of whatever rank.
func TestTakeAndDropAreTheArray(t *testing.T) {
	for _, a := range manyArrays() {
		if len(a.Shape) == 0 {
			continue
		}
		last := len(a.Shape) - 1
		for k := range a.Shape[last] + 1 {
			front, back := vector(replacedAt(a.Shape, last, k)...), vector(replacedAt(make([]int, last+1), last, k)...)
			catenate(answerOf(t, take(front, a)), answerOf(t, drop(back, a))).gives(t, a)
			front, back = vector(replacedAt(a.Shape, last, -k)...), vector(replacedAt(make([]int, last+1), last, -k)...)
			catenate(answerOf(t, drop(back, a)), answerOf(t, take(front, a))).gives(t, a)
		}
	}
}

// TestIndexOfAllPlacesIsTheArray is of promise 7.
func TestIndexOfAllPlacesIsTheArray(t *testing.T) {
	for _, a := range append(manyArrays(), filled(false, 10000), filled(true, 100, 100), filled(false, 10, 10, 10, 5, 2)) {
		var everyNumber []impl.Part
		for _, length := range a.Shape {
			everyNumber = append(everyNumber, at(upTo(length)))
		}
		index(a, allOf(len(a.Shape))...).gives(t, a)
		index(a, everyNumber...).gives(t, a)
		replace(a, a, allOf(len(a.Shape))...).gives(t, a)
	}
}

// TestReplaceWritesWhatIndexReads is of promise 7: what was written is read there, the last of several, and no other place is written.
func TestReplaceWritesWhatIndexReads(t *testing.T) {
	g := grower{rand.New(rand.NewPCG(21, 2542))}
	several := 0
	for range 6000 {
		a := g.arrayOf(g.IntN(3) == 0, g.shape(4))
		parts := g.goodParts(a.Shape)
		was, code := index(a, parts...).answer(t)
		if code != 0 {
			continue
		}
		b := full(a.Char, 0, was.Shape...)
		for i := range b.Data {
			b.Data[i] = 1000 + i
		}
		got := answerOf(t, replace(a, b, parts...))
		read := answerOf(t, index(got, parts...))
		// The same parts of the array's own places tell which place comes where.
		places := filled(false, a.Shape...)
		picked := answerOf(t, index(places, parts...))
		last := map[int]int{}
		for i, place := range picked.Data {
			last[place] = i
		}
		if len(last) < len(picked.Data) {
			several++
		}
		for i, place := range picked.Data {
			if read.Data[i] != b.Data[last[place]] {
				t.Fatalf("Replace of %s: %s is read behind it, of %s", arrayName(a), arrayName(read), arrayName(b))
			}
		}
		for i, place := range places.Data {
			if _, isPicked := last[place]; !isPicked && got.Data[i] != a.Data[i] {
				t.Fatalf("Replace of %s wrote at place %d, which no part picks", arrayName(a), i)
			}
		}
		// What Index reads, written there again, changes nothing.
		replace(a, was, parts...).gives(t, a)
	}
	if several < 300 {
		t.Errorf("a place came several times in %d arrays only", several)
	}
}

// goodParts have no code by themselves.
func (g grower) goodParts(shape []int) []impl.Part {
	var parts []impl.Part
	for _, length := range shape {
		part := all
		if g.IntN(3) > 0 {
			part = at(none(0))
		}
		if g.IntN(8) > 0 && !part.All && length > 0 {
			part.A = filled(false, pick(g, nil, nil, []int{1}, []int{2}, []int{3}, []int{4}, []int{2, 2}, []int{1, 1, 2}, []int{2, 0})...)
			for i := range part.A.Data {
				part.A.Data[i] = 1 + g.IntN(length)
			}
		}
		parts = append(parts, part)
	}
	return parts
}
