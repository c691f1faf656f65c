package tests

import (
	"fmt"
	"reflect"
	"slices"
	"testing"

	"loop.example/s02542/impl"
)

func reshape(s impl.Array, a impl.Array) call {
	return call{"Reshape", func(args []impl.Array) (impl.Array, int) { return impl.Reshape(args[0], args[1]) }, []impl.Array{s, a}}
}

func catenate(a impl.Array, b impl.Array) call {
	return call{"Catenate", func(args []impl.Array) (impl.Array, int) { return impl.Catenate(args[0], args[1]) }, []impl.Array{a, b}}
}

func rotate(k impl.Array, a impl.Array, first bool) call {
	return call{fmt.Sprintf("Rotate (first: %v)", first), func(args []impl.Array) (impl.Array, int) { return impl.Rotate(args[0], args[1], first) }, []impl.Array{k, a}}
}

func transpose(p impl.Array, a impl.Array) call {
	return call{"Transpose", func(args []impl.Array) (impl.Array, int) { return impl.Transpose(args[0], args[1]) }, []impl.Array{p, a}}
}

func take(k impl.Array, a impl.Array) call {
	return call{"Take", func(args []impl.Array) (impl.Array, int) { return impl.Take(args[0], args[1]) }, []impl.Array{k, a}}
}

func drop(k impl.Array, a impl.Array) call {
	return call{"Drop", func(args []impl.Array) (impl.Array, int) { return impl.Drop(args[0], args[1]) }, []impl.Array{k, a}}
}

func index(a impl.Array, parts ...impl.Part) call {
	return call{"Index" + flagsName(parts), func(args []impl.Array) (impl.Array, int) {
		return withParts(parts, args[1:], func(own []impl.Part) (impl.Array, int) { return impl.Index(args[0], own) })
	}, append([]impl.Array{a}, arraysIn(parts)...)}
}

func replace(a impl.Array, b impl.Array, parts ...impl.Part) call {
	return call{"Replace" + flagsName(parts), func(args []impl.Array) (impl.Array, int) {
		return withParts(parts, args[2:], func(own []impl.Part) (impl.Array, int) { return impl.Replace(args[0], own, args[1]) })
	}, append([]impl.Array{a, b}, arraysIn(parts)...)}
}

func flagsName(parts []impl.Part) string {
	text := " (all:"
	for _, part := range parts {
		text += fmt.Sprintf(" %v", part.All)
	}
	return text + ")"
}

func arraysIn(parts []impl.Part) []impl.Array {
	var arrays []impl.Array
	for _, part := range parts {
		arrays = append(arrays, part.A)
	}
	return arrays
}

// partsWritten is no code of the document: it tells that the list of parts was written into.
const partsWritten = -1

func withParts(parts []impl.Part, arrays []impl.Array, run func(own []impl.Part) (impl.Array, int)) (impl.Array, int) {
	var own []impl.Part
	for i, part := range parts {
		own = append(own, impl.Part{All: part.All, A: arrays[i]})
	}
	own = append(own, impl.Part{All: true, A: scalar(roomMark)})
	kept := slices.Clone(own)
	got, code := run(own[:len(parts)])
	if !reflect.DeepEqual(own, kept) {
		return impl.Array{}, partsWritten
	}
	return got, code
}

var all = impl.Part{All: true}

func at(a impl.Array) impl.Part    { return impl.Part{A: a} }
func atOne(n int) impl.Part        { return at(scalar(n)) }
func atList(list ...int) impl.Part { return at(vector(list...)) }
func allOf(rank int) []impl.Part   { return slices.Repeat([]impl.Part{all}, rank) }
func upTo(count int) impl.Array    { return filled(false, count) }

// both are the same shape filled with numbers and with characters.
func both(shape ...int) []impl.Array {
	return []impl.Array{filled(false, shape...), filled(true, shape...)}
}

// replacedAt is a shape with another number at one place.
func replacedAt(list []int, place int, n int) []int {
	list = slices.Clone(list)
	list[place] = n
	return list
}

func fillAgain(a impl.Array) int {
	if a.Char {
		return ' '
	}
	return 0
}

// ordersOf are all orders of the numbers from 1 on.
func ordersOf(count int) [][]int {
	if count == 0 {
		return [][]int{{}}
	}
	var all [][]int
	for _, order := range ordersOf(count - 1) {
		for place := range count {
			all = append(all, slices.Insert(slices.Clone(order), place, count))
		}
	}
	return all
}

// TestStructureOfWhatIsNoArray has an array that is not valid at each place of each function, beside what would have another code.
func TestStructureOfWhatIsNoArray(t *testing.T) {
	good := []impl.Array{scalar(1), vector(), vector(1), vector(2, 1), letters("ab"), none(2, 0), filled(false, 2, 2), filled(true, 1, 1, 1), vector(-1), vector(10001, 10001)}
	for _, wrong := range notArrays {
		wantNotOk(t, wrong)
		for _, b := range append(good, wrong) {
			for _, c := range []call{
				reshape(wrong, b), reshape(b, wrong), catenate(wrong, b), catenate(b, wrong), rotate(wrong, b, false), rotate(b, wrong, false), rotate(wrong, b, true), rotate(b, wrong, true),
				transpose(wrong, b), transpose(b, wrong), take(wrong, b), take(b, wrong), drop(wrong, b), drop(b, wrong),
				index(wrong), index(wrong, all), index(wrong, at(b)), index(wrong, at(b), all), index(wrong, allOf(len(wrong.Shape))...),
				replace(wrong, b), replace(wrong, b, all), replace(wrong, b, allOf(len(wrong.Shape))...), replace(b, wrong, allOf(len(b.Shape))...),
				// The list of parts would have the code ErrRank or ErrIndex.
				replace(b, wrong, allOf(len(b.Shape)+1)...), replace(vector(1, 2), wrong, atOne(3)), replace(wrong, b, at(b), at(b), at(b), at(b), at(b), at(b)),
			} {
				c.fails(t, impl.ErrDomain)
			}
		}
	}
}

// TestStructureOfOneArrayTwice hands in the same lists at every place.
func TestStructureOfOneArrayTwice(t *testing.T) {
	was := vector(2, 1)
	a := copyArray(was)
	for name, run := range map[string]func() (impl.Array, int){
		"Reshape":   func() (impl.Array, int) { return impl.Reshape(a, a) },
		"Catenate":  func() (impl.Array, int) { return impl.Catenate(a, a) },
		"Transpose": func() (impl.Array, int) { return impl.Transpose(a, impl.Array{Shape: a.Data, Data: a.Data}) },
		"Take":      func() (impl.Array, int) { return impl.Take(a, impl.Array{Shape: a.Data, Data: a.Data}) },
		"Drop": func() (impl.Array, int) {
			return impl.Drop(impl.Array{Shape: a.Shape, Data: a.Data}, impl.Array{Shape: a.Data, Data: a.Data})
		},
		"Index":   func() (impl.Array, int) { return impl.Index(a, []impl.Part{{A: a}}) },
		"Replace": func() (impl.Array, int) { return impl.Replace(a, []impl.Part{{A: a}}, a) },
	} {
		got, code := run()
		if code != 0 || !isUntouched(a, was) {
			t.Errorf("%s: code %d, of %s", name, code, arrayName(a))
		}
		writeOver(got.Data)
		writeOver(got.Shape)
		if !isUntouched(a, was) {
			t.Errorf("%s: the answer shares memory with the argument", name)
		}
		a = copyArray(was)
	}
}
