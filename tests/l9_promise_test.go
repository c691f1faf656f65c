package tests

import (
	"fmt"
	"math/rand/v2"
	"slices"
	"strings"
	"testing"

	"loop.example/s02542/impl"
)

// bareReply is a reply as Mean would give it.
func bareReply(r impl.Reply) impl.Reply {
	r.Live, r.Cells = 0, 0
	return r
}

// wantPromise11 asks that Run gives what Mean gives of the lines without those that it answers with ErrFull.
func wantPromise11(t *testing.T, s ran) int {
	t.Helper()
	got := s.replies(t)
	kept := tell().with(s.fuel)
	var want []impl.Reply
	for i, r := range got {
		if r.Code != impl.ErrFull {
			kept = kept.then(s.lines[i])
			want = append(want, bareReply(r))
		}
	}
	wantReplies(t, kept, want)
	return len(got) - len(want)
}

func TestRunGivesWhatMeanGives(t *testing.T) {
	g := grower{rand.New(rand.NewPCG(91, 2542))}
	full := 0
	for range 1500 {
		full += wantPromise11(t, g.session())
		full += wantPromise11(t, ran{g.tale(), g.IntN(30)})
	}
	if full < 500 {
		t.Errorf("only %d lines had ErrFull", full)
	}
}

// TestMadeIsEnough is promise 12.
func TestMadeIsEnough(t *testing.T) {
	g := grower{rand.New(rand.NewPCG(92, 2542))}
	for range 1500 {
		s := g.session()
		mean, _ := impl.Mean(s.bytes(), s.fuel)
		sum := 0
		for _, r := range mean {
			sum += r.Made
		}
		for _, budget := range []int{sum, sum + 1, impl.MaxBudget} {
			for i, r := range s.within(budget).replies(t) {
				if !isReply(bareReply(r), mean[i]) {
					t.Fatalf("%s: reply %d is %s; want %s", s.within(budget), i, ranName(r), replyName(mean[i]))
				}
			}
		}
	}
}

// TestJustEnoughCells has the least budget with which no line has ErrFull, by the second reckoning, and one less.
func TestJustEnoughCells(t *testing.T) {
	g := grower{rand.New(rand.NewPCG(93, 2542))}
	for range 1000 {
		s := g.session()
		need := ownNeed(s)
		isFull := func(r impl.Reply) bool { return r.Code == impl.ErrFull }
		if got := s.within(need).replies(t); slices.ContainsFunc(got, isFull) {
			t.Fatalf("%s: ErrFull", s.within(need))
		}
		if need == 0 {
			continue
		}
		if got := s.within(need - 1).replies(t); !slices.ContainsFunc(got, isFull) {
			t.Fatalf("%s: no ErrFull", s.within(need-1))
		}
	}
}

// wantRan asks for replies, with Live and Cells.
func wantRan(t *testing.T, s ran, want []impl.Reply) {
	t.Helper()
	got, ok := impl.Run(s.bytes(), s.fuel, s.budget)
	if !ok || len(got) != len(want) {
		t.Fatalf("%s: %d replies, %v", s, len(got), ok)
	}
	for i := range want {
		if !isReply(got[i], want[i]) {
			t.Fatalf("%s: reply %d is %s; want %s", s, i, ranName(got[i]), ranName(want[i]))
		}
	}
}

// wantPromise10OfRun asks that each line has the reply that it has with those up to it alone, and that those with a code might as well not be there.
func wantPromise10OfRun(t *testing.T, s ran) {
	t.Helper()
	all := s.replies(t)
	for count, r := range all {
		wantRan(t, s.upTo(count), all[:count])
		if r.Code != 0 {
			wantRan(t, s.without(count), slices.Delete(slices.Clone(all), count, count+1))
		}
	}
	var good []string
	var want []impl.Reply
	for i, r := range all {
		if r.Code == 0 {
			good, want = append(good, s.lines[i]), append(want, r)
		}
	}
	wantRan(t, run(good...).with(s.fuel).within(s.budget), want)
}

func TestLinesRunAsTheyRunUpToThem(t *testing.T) {
	g := grower{rand.New(rand.NewPCG(94, 2542))}
	for range 700 {
		wantPromise10OfRun(t, g.session())
	}
}

func TestTwoFuels(t *testing.T) {
	g := grower{rand.New(rand.NewPCG(95, 2542))}
	told := 0
	for range 1500 {
		s := g.session()
		lesser := g.IntN(1 + min(s.fuel, pick(g, 40, 400)))
		more, less := s.replies(t), s.with(lesser).replies(t)
		for i, r := range less {
			if r.Code == impl.ErrFuel {
				told++
				break
			}
			if !isReply(r, more[i]) {
				t.Fatalf("%s: reply %d is %s with %d; want %s", s, i, ranName(r), lesser, ranName(more[i]))
			}
		}
	}
	if told < 300 {
		t.Errorf("only %d had ErrFuel", told)
	}
}

// TestLiveIsWhatNamesLookAt is promise 15, beside what is asked of every reply: the cells are given back when all names are scalars, whatever has been done, and the other way round when names are scalars one after the other.
func TestLiveIsWhatNamesLookAt(t *testing.T) {
	g := grower{rand.New(rand.NewPCG(96, 2542))}
	for range 1500 {
		s := g.session().with(impl.MaxWork)
		_, m := s.watched(t)
		live, names := m.live(), []string{}
		for name := range m.grounds[0].arrays {
			names = append(names, name+"←0")
		}
		slices.Sort(names)
		if len(names) == 0 {
			continue
		}
		if r := s.then(strings.Join(names, "⋄")).last(t); r.Live != 0 || r.Code != 0 {
			t.Fatalf("%s: %s when all names are 0", s, ranName(r))
		}
		one := s.then(names...).replies(t)[len(s.lines):]
		for _, r := range one {
			if r.Live > live || r.Code != 0 || r.Cells != 0 {
				t.Fatalf("%s: %s when one more name is 0, behind %d", s, ranName(r), live)
			}
			live = r.Live
		}
		if live != 0 {
			t.Fatalf("%s: %d cells are left", s, live)
		}
	}
}

// TestAnyBytesHaveAReply is promise 16.
func TestAnyBytesHaveAReply(t *testing.T) {
	g := grower{rand.New(rand.NewPCG(97, 2542))}
	for range 1500 {
		lines := []string{"x←1 2 3⋄y←⌽x⋄F←{⍵}"}
		for range g.IntN(8) {
			var line []byte
			for range g.IntN(20) {
				line = append(line, pick(g, byte(g.IntN(256)), 'x', ' ', '1', 10, '\''))
			}
			lines = append(lines, pick(g, string(line), strings.Join(wordsOf(g.line(), false), " "), g.sessionLine(), "x[1]←x[2]"))
		}
		s := run(lines...).with(g.IntN(500)).within(pick(g, 0, 3, g.IntN(20), impl.MaxBudget))
		s.replies(t)
		wantPromise11(t, s)
	}
}

// sharings are how y comes to share what x has; in the last ones a call, and a call within it, share it too.
var sharings = []string{
	"y←x", "y←x\nz←y\ny←⌽z", "y←⌽x", "y←⍉⊖x", "y←⊖⌽x", "y←+x", "y←,x", "y←∊⌽⊖x", "y←,⍉x", "y←(,x)[⍳2]", "y←1↓,x", "y←¯1↓⌽,x", "y←2⍴,x", "y←{⍵}x", "y←x{⍺}0", "y←{⌽⍵}x", "y←{z←⍵⋄z}x", "y←{w←⍵⋄w}⌽x", "y←x⋄z←y", "z←x⋄y←⌽z⋄z←0", "y←x\nx←⌽x", "y←x\nx←,x\nx←⌽x", "x←⌽x\ny←⌽x", "y←⌽⌽x\nz←⌽y", "y←{{⍵}⍵}x",
}

// wantYAlone asks that an assignment to a part of x gives x an array, or has a code, and that y shows the same before and behind it: as a line of its own, within a line of several stmts, and within a call.
func wantYAlone(t *testing.T, x impl.Array, sharing string, line string, want impl.Array, code int) {
	t.Helper()
	before := runAll("x←" + textOf(x) + "\n" + sharing)
	seen := before.then("⍴y⋄y").last(t)
	shown := "⍴x⋄,x"
	wantText := showAgain(vector(want.Shape...)) + showAgain(impl.Array{Char: want.Char, Shape: []int{len(want.Data)}, Data: want.Data})
	got := before.then(line, "⍴y⋄y", shown, "y←0", line, shown).replies(t)[len(before.lines):]
	if got[0].Code != code || string(got[1].Text) != string(seen.Text) || code == 0 && string(got[2].Text) != wantText {
		t.Fatalf("%s, then %q: %s, y %q, x %q; want %q and %q", before, line, ranName(got[0]), got[1].Text, got[2].Text, seen.Text, wantText)
	}
	// In the same line it is undone when a code comes behind it.
	got = before.then(line+"⋄⍴y⋄y⋄"+shown, "y", "0⋄"+line+"⋄u", "⍴y⋄y", "x").replies(t)[len(before.lines):]
	if code == 0 && string(got[0].Text) != string(seen.Text)+wantText || got[0].Code != code || string(got[3].Text) != string(seen.Text) {
		t.Fatalf("%s, then %q with others: %s, %s; want %q and %q", before, line, ranName(got[0]), ranName(got[3]), seen.Text, wantText)
	}
	// In a call, what ⍵ and the workspace look at stays.
	got = before.then("F←{x←⍵⋄"+line+"⋄x}", "z←F x", "⍴z⋄,z", "x", "⍴y⋄y").replies(t)[len(before.lines):]
	if got[1].Code != code || code == 0 && string(got[2].Text) != wantText || string(got[4].Text) != string(seen.Text) || string(got[3].Text) != string(before.then("x").last(t).Text) {
		t.Fatalf("%s, then %q in a call: %s, %s; want %q and %q", before, line, ranName(got[1]), ranName(got[4]), seen.Text, wantText)
	}
}

// TestAssignmentsChangeNoOtherName is promise 13.
func TestAssignmentsChangeNoOtherName(t *testing.T) {
	g := grower{rand.New(rand.NewPCG(98, 2542))}
	counts := map[[2]int]int{}
	for range 1500 {
		x := g.arrayOf(g.IntN(4) == 0, g.shape(3))
		sharing := pick(g, sharings...)
		setup := runAll("x←" + textOf(x) + "\n" + sharing)
		if !areShort(x) || setup.last(t).Code != 0 {
			continue
		}
		_, m := setup.watched(t)
		x = m.grounds[0].arrays["x"].Array
		sharing += "\nx←" + pick(g, "x", "+x")
		switch g.IntN(3) {
		case 0:
			parts := g.partsFor(x.Shape)
			words, isShort := partsText(parts)
			b := g.other(x, parts)
			if !isShort || !areShort(b) {
				continue
			}
			want, code := impl.Replace(x, parts, b)
			counts[[2]int{0, code}]++
			wantYAlone(t, setupOf(setup), sharing, fmt.Sprintf("x[%s]←%s", words, textOf(b)), want, code)
		case 1:
			op := pick(g, everyOp...)
			b := g.arrayOf(x.Char, pick(g, x.Shape, x.Shape, nil, ones(1)))
			if !areShort(b) {
				continue
			}
			want, code := impl.Scalar2(op, x, b)
			counts[[2]int{1, code}]++
			wantYAlone(t, setupOf(setup), sharing, "x"+primSigns[op-1]+"←"+textOf(b), want, code)
		case 2:
			w := g.taleSelection(g.IntN(3), "x", false)
			line := "(" + strings.Join(wordsOf(w, false), " ") + ")←" + textOf(g.arrayOf(x.Char, nil))
			mean := setup.told.then(line)
			code := mean.last(t).Code
			want, _ := mean.value(t, "x")
			if code == impl.ErrFuel || code == impl.ErrValue {
				continue
			}
			counts[[2]int{2, code}]++
			wantYAlone(t, setupOf(setup), sharing, line, want, code)
		}
	}
	wantEveryCode(t, counts, [][]int{{0}, {0}, {0}})
}

// setupOf is the array that the first line of lines gives x.
func setupOf(s ran) impl.Array {
	_, m := runAgain(s.lines[:1], s.fuel, s.budget)
	return m.grounds[0].arrays["x"].Array
}

// partsText is parts as they stand in a line, where they are few and valid.
func partsText(parts []impl.Part) (string, bool) {
	var words []string
	for i, part := range parts {
		if part.All {
			parts[i] = all
			words = append(words, "")
		} else if areShort(part.A) {
			words = append(words, textOf(part.A))
		} else {
			return "", false
		}
	}
	return strings.Join(words, ";"), len(parts) > 0
}

// TestViewsTakeNoCells is promise 14: what turns, drops, takes and picks by lists that are there already takes nothing, however often it is done.
func TestViewsTakeNoCells(t *testing.T) {
	g := grower{rand.New(rand.NewPCG(99, 2542))}
	good := 0
	for range 4000 {
		before := run(pick(g, "x←1 2 3 4 5 6 7 8", "x←'abcdefgh'", "x←2 4⍴1 2 3 4 5 6 7 8", "x←2 2 2⍴10×⍳8", "x←⍳8", "x←2 4⍴5"), "e←1 3⋄o←3 1⋄a←1 1⋄b←2 1⋄c←0 1⋄d←2 2⋄f←1 3 2⋄k←1 1 0", "y←x")
		expr := pick(g, "x", "y", "⍳8")
		for range 1 + g.IntN(5) {
			switch g.IntN(5) {
			case 0:
				expr = pick(g, "⌽", "⊖", "⍉", "+") + expr
			case 1:
				expr = pick(g, "1↓", "¯1↓", "2↓", "c↓", "k↓", "0↓", "9↓", "a↓") + expr
			case 2:
				expr = pick(g, "1⍉", "b⍉", "f⍉") + expr
			case 3:
				expr = "(" + expr + ")[" + pick(g, "", "1", "e", "o", "a", "⍳2", "⌽⍳3", "4⍴2", ";e", "e;", "o;1", ";⍳3", "a;o", ";;1", "1;;", "2;⌽⍳2;") + "]"
			case 4:
				expr = pick(g, "2↑", "¯2↑", "1↑", "d↑", "a↑") + expr
			}
		}
		s := before.then("z←" + expr)
		r := s.last(t)
		if r.Code != 0 {
			continue
		}
		_, m := s.watched(t)
		// Where more is taken than there is, it is new.
		if r.Cells != 0 && !strings.Contains(expr, "↑") {
			t.Fatalf("%s: %s", s, ranName(r))
		}
		good++
		// Written into when it alone looks, it takes none either.
		if z := m.grounds[0].arrays["z"]; z.slab != nil && !strings.Contains(expr, "a") && !strings.Contains(expr, "4⍴2") {
			for _, line := range []string{"(⌽z)←z[⍬⍴1]", "(,z)←↑z", "z=←↑z", "(⊖⍉z)←↑z"} {
				if r := s.then("x←0", "y←0", line).last(t); r.Code == 0 && r.Cells != 0 {
					t.Fatalf("%s: %s", s.then("x←0", "y←0", line), ranName(r))
				}
			}
		}
	}
	if good < 800 {
		t.Errorf("only %d had no code", good)
	}
}
