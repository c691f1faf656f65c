package tests

import (
	"math/rand/v2"
	"strings"
	"testing"

	"loop.example/s02542/impl"
)

func TestRunAgreesByChance(t *testing.T) {
	g := grower{rand.New(rand.NewPCG(90, 2542))}
	counts := map[[2]int]int{}
	inPlace, anew := 0, 0
	for range 6000 {
		got, m := g.session().watched(t)
		for _, r := range got {
			counts[[2]int{0, r.Code}]++
		}
		inPlace += m.inPlace
		anew += m.anew
	}
	wantEveryCode(t, counts, [][]int{{0, impl.ErrSyntax, impl.ErrValue, impl.ErrDomain, impl.ErrRank, impl.ErrLength, impl.ErrIndex, impl.ErrFuel, impl.ErrFull}})
	if inPlace < 500 || anew < 2000 {
		t.Errorf("only %d assignments were in place, %d anew", inPlace, anew)
	}
}

func FuzzRun(f *testing.F) {
	for _, lines := range []string{
		"x←⍳6\ny←x+0\nz←⌽y\ny[1]←9\nz\ny[2]←8", "y←1 2 3\nz←y\nz←0\ny+←1\ny", "x←2 3⍴⍳6\n(⍉x)←3 2⍴⍳6\nx", "x←1 2 3⋄x←4 5 6\nx←7⋄x←8 9 1", "F←{y←⍵⋄y[1]←0⋄y,⍵}\nF 1 2", "x←1 2 3\nx[x]←⌽x\n(x[x])←0", "w←,⍉2 3⍴⍳6\nw[6 1 3]", "⍝\xff\n[",
	} {
		f.Add([]byte(lines), 1000, 20)
	}
	f.Fuzz(func(t *testing.T, text []byte, fuel int, budget int) {
		lines := strings.Split(string(text), "\n")
		s := run(lines[:min(len(lines), impl.MaxLines)]...).with(max(fuel%3000, -(fuel % 3000))).within(max(budget%200, -(budget % 200)))
		wantPromise11(t, s)
	})
}
