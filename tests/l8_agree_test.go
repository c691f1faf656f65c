package tests

import (
	"math/rand/v2"
	"strings"
	"testing"

	"loop.example/s02542/impl"
)

func TestMeanAgreesByChance(t *testing.T) {
	g := grower{rand.New(rand.NewPCG(81, 2542))}
	counts := map[[2]int]int{}
	kinds := map[int]int{}
	for range 3000 {
		s := g.tale()
		for i, r := range s.replies(t) {
			counts[[2]int{0, r.Code}]++
			if tree, _, _ := impl.Parse([]byte(s.lines[i])); r.Code == 0 {
				for _, n := range tree.Nodes {
					kinds[n.K]++
				}
			}
		}
	}
	wantEveryCode(t, counts, [][]int{{0, impl.ErrSyntax, impl.ErrValue, impl.ErrDomain, impl.ErrRank, impl.ErrLength, impl.ErrIndex, impl.ErrLimit, impl.ErrFuel}})
	for kind := 1; kind <= 25; kind++ {
		if kinds[kind] < 30 {
			t.Errorf("only %d nodes of kind %d in lines without a code", kinds[kind], kind)
		}
	}
}

func FuzzMean(f *testing.F) {
	for _, lines := range []string{
		"x←⍳3\nx[2]←9\nx", "F←{⍵<2:1⋄⍵×∇⍵-1}\nF 5", "x←2 3⍴⍳6\n(⍉x)←3 2⍴⍳6\nx", "x←⍳5\n(2↑⌽x)←0\nx", "x←1⋄y←x÷0\ny", "x←5\nF←{x←⍵⋄x+←1⋄x}\nF 7⋄x", "1 2+\\3\n∘.+1", "'abc'[2 1]⋄⍬\n⍝\xff\n[",
	} {
		f.Add([]byte(lines), 1000)
	}
	f.Fuzz(func(t *testing.T, text []byte, fuel int) {
		lines := strings.Split(string(text), "\n")
		tell(lines[:min(len(lines), impl.MaxLines)]...).with(max(fuel%3000, -(fuel % 3000))).replies(t)
	})
}
