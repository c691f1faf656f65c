package tests

import (
	"fmt"
	"math/rand/v2"
	"strings"
	"testing"

	"loop.example/s02542/impl"
)

// wantPromise10 asks of lines that each has the reply that it has with those up to it alone, and that those with a code might as well not be there.
func wantPromise10(t *testing.T, s told) []impl.Reply {
	t.Helper()
	all, _ := impl.Mean(s.bytes(), s.fuel)
	if len(all) != len(s.lines) {
		t.Fatalf("%s: %d replies", s, len(all))
	}
	for count := range len(s.lines) {
		wantReplies(t, s.upTo(count), all[:count])
		if all[count].Code == 0 {
			continue
		}
		wantReplies(t, s.without(count), append(append([]impl.Reply{}, all[:count]...), all[count+1:]...))
		for _, name := range lowNames {
			before, wasThere := s.upTo(count).value(t, name)
			behind, isThere := s.upTo(count+1).value(t, name)
			if wasThere != isThere || !isAlike(before, behind) {
				t.Fatalf("%s: line %d with the code %d made %s %s, %v of %s, %v", s, count, all[count].Code, name, arrayName(behind), isThere, arrayName(before), wasThere)
			}
		}
	}
	return all
}

func wantReplies(t *testing.T, s told, want []impl.Reply) {
	t.Helper()
	got, ok := impl.Mean(s.bytes(), s.fuel)
	if !ok || len(got) != len(want) {
		t.Fatalf("%s: %d replies, %v", s, len(got), ok)
	}
	for i := range want {
		if !isReply(got[i], want[i]) {
			t.Fatalf("%s: reply %d is %s; want %s", s, i, replyName(got[i]), replyName(want[i]))
		}
	}
}

func TestLinesMeanWhatTheyMeanUpToThem(t *testing.T) {
	g := grower{rand.New(rand.NewPCG(82, 2542))}
	codes := map[int]int{}
	for range 1200 {
		for _, r := range wantPromise10(t, g.tale()) {
			codes[r.Code]++
		}
	}
	for code := range impl.ErrFuel + 1 {
		if codes[code] < 50 {
			t.Errorf("only %d lines had the code %d", codes[code], code)
		}
	}
}

// TestAnyBytesMeanSomething has promise 16 too: there is a reply for each line.
func TestAnyBytesMeanSomething(t *testing.T) {
	g := grower{rand.New(rand.NewPCG(83, 2542))}
	for range 1000 {
		lines := []string{"x←⍳3⋄F←{⍵}"}
		for range g.IntN(8) {
			var line []byte
			for range g.IntN(20) {
				line = append(line, pick(g, byte(g.IntN(256)), 'x', ' ', '1', 10, '\''))
			}
			lines = append(lines, pick(g, string(line), strings.Join(wordsOf(g.line(), false), " ")))
		}
		s := tell(lines...).with(g.IntN(500))
		s.replies(t)
		wantPromise10(t, s)
	}
}

// TestALineWithACodeLeavesAllNames has every kind of assignment ahead of every kind of code.
func TestALineWithACodeLeavesAllNames(t *testing.T) {
	before := tell("x←⍳3", "F←{⍵,1}", "G←{x←⍵⋄x[1]←0⋄F←{⍵}⋄1÷0}", "H←{⍵=0:u⋄x←⍵⋄∇⍵-1}", "z←'ab'")
	looks := []string{"x", "z", "F 1", "⍴x", "y", "K 1"}
	wants := []string{"1 2 3\n", "ab\n", "1 1\n", "3\n", "VALUE ERROR\n", "VALUE ERROR\n"}
	assigned := []string{"x←9", "x←'abc'", "x[2]←9", "x[]←4 5 6", "x+←1", "x=←1", "(⌽x)←7 8 9", "(2↑x)←0", "z[1]←'q'", "z←x", "F←{9}", "y←5", "K←{8}", "x←1⋄y←x⋄z←y⋄F←{0}⋄K←{F ⍵}", "y←F 1⋄x[1]←9⋄(⌽x)←x", "x[1]←9⋄x[2]←9⋄x[3]←9"}
	faults := []string{"1÷0", "u", "x[9]←1", "x[1]←1÷0", "u+←1", "(9↑x)←1", "(⌽x)←1 2 3 4 5", "G 1", "H 3", "y←G 1", "{x←⍵⋄x+←1⋄1÷0}1", "{∇⍵}1", "{⍵:1}2", "{}1", "1 2+1 2 3", "(⍳9999)∘.+⍳9999", "+.×1", "L 1", "y←⍳10001"}
	for _, a := range assigned {
		for _, f := range faults {
			for _, line := range []string{a + "⋄" + f, f + "⋄" + a, a + "⋄" + f + "⋄" + a, a + "⋄" + f + "⋄" + f} {
				s := before.then(line).then(looks...)
				replies := s.replies(t)
				if replies[len(before.lines)].Code == 0 {
					t.Fatalf("%q has no code", line)
				}
				for i, want := range wants {
					if got := replies[len(before.lines)+1+i]; string(got.Text) != want {
						t.Errorf("behind %q: %s is %q; want %q", line, looks[i], got.Text, want)
					}
				}
			}
		}
	}
}

// TestALineThatRunsOutOfFuelLeavesAllNames has too little fuel at every place behind an assignment.
func TestALineThatRunsOutOfFuelLeavesAllNames(t *testing.T) {
	line := "x←7⋄x+←1⋄y←x,x⋄y[1]←2⋄(⌽y)←3⋄F←{x←⍵⋄x[1]←0⋄x}⋄z←F y"
	need := tell(line).last(t).Work
	for fuel := range need {
		s := tell("x←5", line).with(fuel)
		s.fails(t, impl.ErrFuel)
		s.hasNo(t, "y")
		s.hasNo(t, "z")
		if fuel >= 3 {
			s.has(t, "x", scalar(5))
		}
		s.then("F 1").fails(t, map[bool]int{true: impl.ErrFuel, false: impl.ErrValue}[fuel < 4])
	}
	tell("x←5", line).with(need).has(t, "x", scalar(8))
	tell("x←5", line).with(need).has(t, "z", vector(0, 3))
}

// others are names that share what x has, or are made of it.
const others = "y←x⋄z←⌽,x⋄u←x"

// wantOthersAlone asks that an assignment to a part of x gave it an array, or had a code, and left the others as they were.
func wantOthersAlone(t *testing.T, x impl.Array, line string, want impl.Array, code int) {
	t.Helper()
	before := tell("x←"+textOf(x), others)
	s := before.then(line)
	got, _ := impl.Mean(s.bytes(), s.fuel)
	if got[2].Code != code {
		t.Fatalf("%s: %s; want the code %d", s, replyName(got[2]), code)
	}
	if code != 0 {
		want = x
	}
	if a, _ := s.value(t, "x"); !isAlike(a, want) {
		t.Fatalf("%s: x is %s; want %s", s, arrayName(a), arrayName(want))
	}
	for _, name := range []string{"y", "z", "u"} {
		was, _ := before.value(t, name)
		if a, _ := s.value(t, name); !isAlike(a, was) {
			t.Fatalf("%s: %s is %s; it was %s", s, name, arrayName(a), arrayName(was))
		}
	}
}

// areShort says whether arrays are valid, and few enough elements to be written in one line.
func areShort(arrays ...impl.Array) bool {
	for _, a := range arrays {
		if !areArrays(a) || len(a.Data) > 40 {
			return false
		}
	}
	return true
}

func TestAssignmentsToPartsGiveWhatReplaceGives(t *testing.T) {
	g := grower{rand.New(rand.NewPCG(84, 2542))}
	counts := map[[2]int]int{}
	for range 4000 {
		x := g.arrayOf(g.IntN(4) == 0, g.shape(4))
		parts := g.partsFor(x.Shape)
		b := g.other(x, parts)
		var words []string
		for i, part := range parts {
			words = append(words, "")
			if part.All {
				parts[i] = all
			} else if areShort(part.A) {
				words[i] = textOf(part.A)
			} else {
				words = nil
				break
			}
		}
		if len(words) == 0 || !areShort(x, b) {
			continue
		}
		want, code := impl.Replace(x, parts, b)
		counts[[2]int{0, code}]++
		wantOthersAlone(t, x, fmt.Sprintf("x[%s]←%s", strings.Join(words, ";"), textOf(b)), want, code)
	}
	wantEveryCode(t, counts, [][]int{{0, impl.ErrDomain, impl.ErrRank, impl.ErrLength, impl.ErrIndex}})
}

func TestAssignmentsByAFunctionGiveWhatScalar2Gives(t *testing.T) {
	g := grower{rand.New(rand.NewPCG(85, 2542))}
	counts := map[[2]int]int{}
	for range 3000 {
		x, b := g.pairOfArrays()
		op := pick(g, everyOp...)
		if !areShort(x, b) {
			continue
		}
		want, code := impl.Scalar2(op, x, b)
		counts[[2]int{0, code}]++
		wantOthersAlone(t, x, "x"+primSigns[op-1]+"←"+textOf(b), want, code)
	}
	wantEveryCode(t, counts, [][]int{{0, impl.ErrDomain, impl.ErrRank, impl.ErrLength}})
}

// ofName is a selection made of another name.
func ofName(w twig, name string) twig {
	if w.node.K == 3 {
		return wLow(name)
	}
	kids := append([]twig{}, w.kids...)
	kids[kidWithin(w)] = ofName(kids[kidWithin(w)], name)
	return twig{w.node, kids}
}

func hasTake(w twig) bool {
	if w.node.K == 3 {
		return false
	}
	return w.node.K == 10 && w.kids[1].node.N == impl.FnTake || hasTake(w.kids[kidWithin(w)])
}

// TestAssignmentsToSelectionsWriteWhatIsRead evaluates a selection of the numbers of x's elements, from 1 on, as an expr of its own, and writes by these numbers.
func TestAssignmentsToSelectionsWriteWhatIsRead(t *testing.T) {
	g := grower{rand.New(rand.NewPCG(86, 2542))}
	counts := map[[2]int]int{}
	for range 6000 {
		x := g.arrayOf(g.IntN(4) == 0, g.shape(3))
		if !areShort(x) {
			continue
		}
		w := g.taleSelection(g.IntN(3), "x", false)
		text := func(w twig) string { return strings.Join(wordsOf(w, false), " ") }
		places := filled(false, x.Shape...)
		reads := tell("x←"+textOf(x), others, "n←"+textOf(places), "s←"+text(ofName(w, "n")))
		got, _ := impl.Mean(reads.bytes(), reads.fuel)
		code := got[3].Code
		chosen, _ := reads.value(t, "s")
		b := g.arrayOf(x.Char != (g.IntN(8) == 0), pick(g, chosen.Shape, chosen.Shape, nil, ones(2), g.shape(3)))
		if !areShort(b, chosen) && code == 0 || !areShort(b) {
			continue
		}
		want := impl.Array{Char: x.Char, Shape: x.Shape, Data: append([]int{}, x.Data...)}
		switch line, _ := impl.Mean(tell("x←"+textOf(x), others, "("+text(w)+")←"+textOf(b)).bytes(), impl.MaxWork); {
		case line[2].Code == impl.ErrIndex && hasTake(w):
			// A fill need not be seen in what is read.
			code = impl.ErrIndex
		case code != 0:
		case len(b.Data) != 1 && len(b.Shape) != len(chosen.Shape):
			code = impl.ErrRank
		case len(b.Data) != 1 && len(b.Data) != len(chosen.Data) || len(b.Data) != 1 && !isAlike(none(b.Shape...), none(chosen.Shape...)):
			code = impl.ErrLength
		case b.Char != x.Char:
			code = impl.ErrDomain
		default:
			for i, place := range chosen.Data {
				want.Data[place-1] = b.Data[i%len(b.Data)]
			}
		}
		counts[[2]int{0, code}]++
		wantOthersAlone(t, x, "("+text(w)+")←"+textOf(b), want, code)
	}
	wantEveryCode(t, counts, [][]int{{0, impl.ErrDomain, impl.ErrRank, impl.ErrLength, impl.ErrIndex}})
}
