package tests

import (
	"fmt"
	"testing"

	"loop.example/s02542/impl"
)

// greatestOp is the number of the last function.
const greatestOp = impl.FnTally

// noOps are the number of no function.
var noOps = []int{-1 << 63, -1 << 32, -33, -2, -1, 0, 34, 35, 100, 1 << 31, 1 << 32, 1<<32 + 1, 1<<32 + 33, top, 1<<63 - 1}

func grade(a impl.Array, down bool) call {
	return call{fmt.Sprintf("Grade (down: %v)", down), func(args []impl.Array) (impl.Array, int) { return impl.Grade(args[0], down) }, []impl.Array{a}}
}

func find(a impl.Array, b impl.Array) call {
	return call{"Find", func(args []impl.Array) (impl.Array, int) { return impl.Find(args[0], args[1]) }, []impl.Array{a, b}}
}

func member(a impl.Array, b impl.Array) call {
	return call{"Member", func(args []impl.Array) (impl.Array, int) { return impl.Member(args[0], args[1]) }, []impl.Array{a, b}}
}

func replicate(k impl.Array, a impl.Array, first bool) call {
	return call{fmt.Sprintf("Replicate (first: %v)", first), func(args []impl.Array) (impl.Array, int) { return impl.Replicate(args[0], args[1], first) }, []impl.Array{k, a}}
}

func decode(a impl.Array, b impl.Array) call {
	return call{"Decode", func(args []impl.Array) (impl.Array, int) { return impl.Decode(args[0], args[1]) }, []impl.Array{a, b}}
}

func encode(a impl.Array, b impl.Array) call {
	return call{"Encode", func(args []impl.Array) (impl.Array, int) { return impl.Encode(args[0], args[1]) }, []impl.Array{a, b}}
}

func monad(op int, a impl.Array) call {
	return call{fmt.Sprintf("Monad by %d", op), func(args []impl.Array) (impl.Array, int) { return impl.Monad(op, args[0]) }, []impl.Array{a}}
}

func dyad(op int, a impl.Array, b impl.Array) call {
	return call{fmt.Sprintf("Dyad by %d", op), func(args []impl.Array) (impl.Array, int) { return impl.Dyad(op, args[0], args[1]) }, []impl.Array{a, b}}
}

// TestPrimitivesOfWhatIsNoArray has an array that is not valid at each place of each function, beside what would have another code.
func TestPrimitivesOfWhatIsNoArray(t *testing.T) {
	good := []impl.Array{scalar(1), vector(), vector(1), vector(2, 1), letters("ab"), none(2, 0), filled(false, 2, 2), filled(true, 1, 1, 1), vector(-1), vector(10001, 10001)}
	for _, wrong := range notArrays {
		for _, down := range []bool{false, true} {
			grade(wrong, down).fails(t, impl.ErrDomain)
		}
		for op := -1; op <= greatestOp+2; op++ {
			// ErrSyntax comes behind, for the ops that have no function of so many arguments.
			monad(op, wrong).fails(t, impl.ErrDomain)
		}
		for _, b := range append(good, wrong) {
			for _, c := range []call{
				find(wrong, b), find(b, wrong), member(wrong, b), member(b, wrong), replicate(wrong, b, false), replicate(b, wrong, false), replicate(wrong, b, true), replicate(b, wrong, true),
				decode(wrong, b), decode(b, wrong), encode(wrong, b), encode(b, wrong),
			} {
				c.fails(t, impl.ErrDomain)
			}
			for op := -1; op <= greatestOp+2; op++ {
				dyad(op, wrong, b).fails(t, impl.ErrDomain)
				dyad(op, b, wrong).fails(t, impl.ErrDomain)
			}
		}
	}
}

func TestPrimitivesByWrongOps(t *testing.T) {
	for _, op := range noOps {
		for _, a := range []impl.Array{scalar(1), vector(), vector(1), vector(1, 0), letter('a'), noLetter(0), letters("ab"), filled(false, 2, 2), filled(true, 1, 1, 1, 1, 1), none(3, 0)} {
			monad(op, a).fails(t, impl.ErrDomain)
			dyad(op, a, a).fails(t, impl.ErrDomain)
			dyad(op, scalar(1), a).fails(t, impl.ErrDomain)
		}
	}
}

// TestPrimitivesOfOneArrayTwice hands in the same lists at every place.
func TestPrimitivesOfOneArrayTwice(t *testing.T) {
	was := vector(2, 1)
	for name, run := range map[string]func(a impl.Array) (impl.Array, int){
		"Find":      func(a impl.Array) (impl.Array, int) { return impl.Find(a, a) },
		"Member":    func(a impl.Array) (impl.Array, int) { return impl.Member(a, a) },
		"Replicate": func(a impl.Array) (impl.Array, int) { return impl.Replicate(a, a, true) },
		"Decode":    func(a impl.Array) (impl.Array, int) { return impl.Decode(a, a) },
		"Encode":    func(a impl.Array) (impl.Array, int) { return impl.Encode(a, a) },
		"Monad": func(a impl.Array) (impl.Array, int) {
			return impl.Monad(impl.FnRho, impl.Array{Shape: a.Data, Data: a.Data})
		},
		"Dyad": func(a impl.Array) (impl.Array, int) { return impl.Dyad(impl.FnRep, a, a) },
	} {
		a := copyArray(was)
		got, code := run(a)
		if code != 0 || !isUntouched(a, was) {
			t.Errorf("%s: code %d, of %s", name, code, arrayName(a))
		}
		writeOver(got.Data)
		writeOver(got.Shape)
		if !isUntouched(a, was) {
			t.Errorf("%s: the answer shares memory with the argument", name)
		}
	}
}
