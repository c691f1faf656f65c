package tests

import (
	"fmt"
	"slices"
	"testing"

	"loop.example/s02542/impl"
)

// everyOp are the ops of two arguments, wrongOps those that none of chapter 4's functions of two arguments has.
var everyOp = []int{impl.FnAdd, impl.FnSub, impl.FnMul, impl.FnDiv, impl.FnMin, impl.FnMax, impl.FnMod, impl.FnPow, impl.FnEq, impl.FnNe, impl.FnLt, impl.FnLe, impl.FnGe, impl.FnGt, impl.FnAnd, impl.FnOr}
var wrongOps = []int{-1 << 63, -1 << 32, -17, -2, -1, 0, 17, 18, 33, 34, 1 << 31, 1<<32 + 1, 1<<63 - 1}

// notArrays are wrong in one way each.
var notArrays = []impl.Array{
	{}, {Char: true}, {Data: []int{1, 2}}, {Shape: []int{2}, Data: []int{1}}, {Shape: []int{2}, Data: []int{1, 2, 3}}, {Shape: []int{-1}, Data: []int{1}}, {Shape: []int{1, 1, 1, 1, 1, 1}, Data: []int{1}},
	{Shape: []int{10001, 0}}, {Shape: []int{101, 0, 100}}, {Shape: []int{1}, Data: []int{impl.MaxInt + 1}}, {Data: []int{-impl.MaxInt - 1}}, {Char: true, Data: []int{-1}}, {Char: true, Shape: []int{1}, Data: []int{0xD800}},
}

func scalar(n int) impl.Array          { return numbers(nil, n) }
func vector(data ...int) impl.Array    { return numbers([]int{len(data)}, data...) }
func letter(r rune) impl.Array         { return characters(nil, string(r)) }
func letters(text string) impl.Array   { return characters([]int{len(text)}, text) }
func ones(rank int) []int              { return slices.Repeat([]int{1}, rank) }
func none(shape ...int) impl.Array     { return numbers(shape) }
func noLetter(shape ...int) impl.Array { return characters(shape, "") }

// full has one element over and over.
func full(isChar bool, n int, shape ...int) impl.Array {
	a := filled(isChar, shape...)
	for i := range a.Data {
		a.Data[i] = n
	}
	return a
}

// call is one call of a function that makes an array of arrays.
type call struct {
	name string
	run  func(args []impl.Array) (impl.Array, int)
	args []impl.Array
}

func scalar1(op int, a impl.Array) call {
	return call{fmt.Sprintf("Scalar1 by %d", op), func(args []impl.Array) (impl.Array, int) { return impl.Scalar1(op, args[0]) }, []impl.Array{a}}
}

func scalar2(op int, a impl.Array, b impl.Array) call {
	return call{fmt.Sprintf("Scalar2 by %d", op), func(args []impl.Array) (impl.Array, int) { return impl.Scalar2(op, args[0], args[1]) }, []impl.Array{a, b}}
}

func fold(op int, a impl.Array, first bool) call {
	return call{fmt.Sprintf("Fold by %d (first: %v)", op, first), func(args []impl.Array) (impl.Array, int) { return impl.Fold(op, args[0], first) }, []impl.Array{a}}
}

func scan(op int, a impl.Array, first bool) call {
	return call{fmt.Sprintf("Scan by %d (first: %v)", op, first), func(args []impl.Array) (impl.Array, int) { return impl.Scan(op, args[0], first) }, []impl.Array{a}}
}

func outer(op int, a impl.Array, b impl.Array) call {
	return call{fmt.Sprintf("Outer by %d", op), func(args []impl.Array) (impl.Array, int) { return impl.Outer(op, args[0], args[1]) }, []impl.Array{a, b}}
}

func inner(f int, g int, a impl.Array, b impl.Array) call {
	return call{fmt.Sprintf("Inner by %d and %d", f, g), func(args []impl.Array) (impl.Array, int) { return impl.Inner(f, g, args[0], args[1]) }, []impl.Array{a, b}}
}

func (c call) String() string {
	text := c.name
	for _, a := range c.args {
		text += ", of " + arrayName(a)
	}
	return text
}

// answer makes the call, and asks of it what holds of every call, whatever it answers.
func (c call) answer(t *testing.T) (impl.Array, int) {
	t.Helper()
	var own []impl.Array
	for _, a := range c.args {
		own = append(own, copyArray(a))
	}
	got, code := c.run(own)
	c.wantUntouched(t, own)
	if code != 0 && (got.Char || len(got.Shape) != 0 || len(got.Data) != 0) {
		t.Fatalf("%s: %s beside the code %d", c, arrayName(got), code)
	}
	if code == 0 && !arrayOkAgain(got) {
		t.Fatalf("%s: %s is not valid", c, arrayName(got))
	}
	kept := impl.Array{Char: got.Char, Shape: slices.Clone(got.Shape), Data: slices.Clone(got.Data)}
	writeOver(got.Shape)
	if !slices.Equal(got.Data, kept.Data) {
		t.Fatalf("%s: the answer's Shape and Data share memory", c)
	}
	writeOver(got.Data)
	c.wantUntouched(t, own)
	return kept, code
}

// writeOver writes into the room behind a list's end too.
func writeOver(list []int) {
	list = list[:cap(list)]
	for i := range list {
		list[i] = -31415
	}
}

func (c call) wantUntouched(t *testing.T, own []impl.Array) {
	t.Helper()
	for i, a := range c.args {
		if !isUntouched(own[i], a) {
			t.Fatalf("%s: argument %d was written into", c, i)
		}
	}
}

func (c call) gives(t *testing.T, want impl.Array) {
	t.Helper()
	if got, code := c.answer(t); code != 0 || !isAlike(got, want) {
		t.Errorf("%s: %s, code %d; want %s", c, arrayName(got), code, arrayName(want))
	}
}

func (c call) fails(t *testing.T, want int) {
	t.Helper()
	if got, code := c.answer(t); code != want {
		t.Errorf("%s: %s, code %d; want the code %d", c, arrayName(got), code, want)
	}
}

// answersLike asks for the same array or code as another call.
func (c call) answersLike(t *testing.T, other call) {
	t.Helper()
	got, code := c.answer(t)
	want, wantCode := other.answer(t)
	if code != wantCode || !isAlike(got, want) {
		t.Errorf("%s: %s, code %d; but %s: %s, code %d", c, arrayName(got), code, other, arrayName(want), wantCode)
	}
}

func isAlike(a impl.Array, b impl.Array) bool {
	return a.Char == b.Char && slices.Equal(a.Shape, b.Shape) && slices.Equal(a.Data, b.Data)
}

// wantWrong has an array that is not valid, and ops that the functions of two arguments do not have, at each place of each function.
func wantWrong(t *testing.T, a impl.Array, op int) {
	t.Helper()
	good := []impl.Array{scalar(1), vector(1, 2), none(0), letters("ab"), filled(false, 2, 2)}
	for _, first := range []bool{false, true} {
		fold(op, a, first).fails(t, impl.ErrDomain)
		scan(op, a, first).fails(t, impl.ErrDomain)
	}
	for _, b := range append(good, a) {
		scalar2(op, a, b).fails(t, impl.ErrDomain)
		scalar2(op, b, a).fails(t, impl.ErrDomain)
		outer(op, a, b).fails(t, impl.ErrDomain)
		outer(op, b, a).fails(t, impl.ErrDomain)
		for _, other := range []int{op, impl.FnAdd, impl.FnEq} {
			inner(op, other, a, b).fails(t, impl.ErrDomain)
			inner(other, op, a, b).fails(t, impl.ErrDomain)
			inner(op, other, b, a).fails(t, impl.ErrDomain)
			inner(other, op, b, a).fails(t, impl.ErrDomain)
		}
	}
}

func TestScalarFunctionsOfWhatIsNoArray(t *testing.T) {
	for _, a := range notArrays {
		wantNotOk(t, a)
		for op := -2; op <= 40; op++ {
			scalar1(op, a).fails(t, impl.ErrDomain)
		}
		for _, op := range everyOp {
			wantWrong(t, a, op)
		}
	}
}

func TestScalarFunctionsByWrongOps(t *testing.T) {
	for _, op := range wrongOps {
		for _, a := range []impl.Array{scalar(1), vector(), vector(1), vector(1, 0), letter('a'), letters(""), letters("a"), letters("ab"), filled(false, 1, 1, 1, 1, 1), none(3, 0), noLetter(0, 2)} {
			wantWrong(t, a, op)
		}
		wantWrong(t, notArrays[0], op)
	}
}
