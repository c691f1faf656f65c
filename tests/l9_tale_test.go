package tests

import (
	"fmt"
	"strings"

	"loop.example/s02542/impl"
)

// session is lines in which names come to share buffers in many ways and are written into, with some fuel, and with a budget that is often just what they need or one less.
func (g grower) session() ran {
	s := run(pick(g, "x←1 2 3 4 5 6", "x←2 3⍴1 2 3 4 5 6", "x←'abcdef'", "x←⍳6", "x←2 2 2⍴⍳8⋄x+←0", "x←3 4⍴⍳12⋄x←x+0", "x←10×⍳8⋄y←2 4⍴x"))
	s = s.then(strings.Split(pick(g, "y←⌽x⋄z←1/x⋄u←2 3⍴7", "y←1/x⋄z←y⋄u←⍳6", "z←⍉x⋄y←5⋄u←1/,x", "u←x⋄z←⌽x⋄y←⍳4", "y←1/x⋄z←1/x⋄u←1/x"), "⋄")...)
	if g.IntN(6) == 0 {
		s = ran{g.tale(), 0}
	}
	for range 2 + g.IntN(10) {
		s = s.then(g.sessionLine())
	}
	need := ownNeed(s)
	budget := pick(g, 0, g.IntN(need+1), need, need, max(need-1, 0), max(need-1, 0), impl.MaxBudget, impl.MaxBudget)
	return s.within(budget).with(pick(g, impl.MaxWork, impl.MaxWork, impl.MaxWork, impl.MaxWork, impl.MaxWork, 3000, g.IntN(400), g.IntN(60)))
}

func (g grower) sessionLine() string {
	if g.IntN(10) == 0 {
		return g.taleLine()
	}
	var stmts []string
	for range pick(g, 1, 1, 1, 1, 2, 3) {
		stmts = append(stmts, g.sessionStmt(1+g.IntN(3)))
	}
	return strings.Join(stmts, "⋄")
}

func (g grower) name() string { return pick(g, "x", "x", "y", "z", "u") }

func (g grower) sessionStmt(depth int) string {
	name := g.name()
	switch g.IntN(17) {
	case 0, 1, 2, 3:
		return name + "←" + g.sight(depth)
	case 14, 15, 16:
		// A copy, into which its name alone looks until it is shared.
		return name + "←" + pick(g, "", "⌽", "⍉", "⊖") + "1/" + g.sight(1)
	case 4, 5:
		return name + "[" + g.sessionParts() + "]←" + g.sessionPlace(name)
	case 6:
		return name + pick(g, "+", "-", "⌊", "=", "×", "≠") + "←" + g.sessionPlace(name)
	case 7, 8:
		return "(" + g.sessionSelection(1+g.IntN(2), name) + ")←" + g.sessionPlace(name)
	case 9:
		return name + "←" + pick(g, "0", "5 6 7", "1 2 3 4 5 6", "'abcd'", "⍳6", "2 3⍴⍳6", "⍬", "''", "2 2⍴9", "2 2⍴1 2 3 4", g.name()+"+0", g.name()+","+g.name(), "-"+g.name())
	case 10, 11:
		return name + "←" + g.sessionCall(depth)
	}
	return g.sight(depth)
}

// sight is an expr that mostly shares the buffer of a name.
func (g grower) sight(depth int) string {
	if depth == 0 {
		return g.name()
	}
	of := g.sight(depth - 1)
	switch g.IntN(8) {
	case 0, 1:
		return "(" + of + ")[" + g.sessionParts() + "]"
	case 2, 3:
		return pick(g, "⌽", "⊖", "⍉", "+", ",", "∊") + of
	case 4:
		return pick(g, "2↑", "¯2↑", "1↓", "¯1↓", "0↓", "2 2↑", "1 1↓", "0 1↓", "2 1⍉", "1⍉", "5↑", "9↑", "1↑") + of
	case 5:
		return pick(g, "3⍴", "2 2⍴", "2 3⍴", "6⍴", "8⍴", "1⍴", "0⍴", "2⍴", "1 4⍴") + of
	}
	return of
}

func (g grower) sessionParts() string {
	part := func() string {
		return pick(g, "", "", "1", "1", "2", "⍳2", "2 1", "1 3", "⌽⍳3", "3⍴2", "1 2 1", "1 3 2", "⍬", "1 1⍴1", "2 2⍴1 2", ",2", "x", "y[1]")
	}
	return pick(g, part(), part(), part(), part(), part()+";"+part(), ";"+part(), part()+";;")
}

func (g grower) sessionSelection(depth int, name string) string {
	if depth == 0 {
		return name
	}
	of := g.sessionSelection(depth-1, name)
	switch g.IntN(3) {
	case 0:
		return "(" + of + ")[" + g.sessionParts() + "]"
	case 1:
		return pick(g, "⌽", "⊖", "⍉", ",") + of
	}
	return pick(g, "2↑", "¯1↓", "1↓", "1⌽", "2 1⍉", "1 1↓", "x[1]↑", "1 2[1]⊖", "9↑") + of
}

// sessionPlace is what is written into a name: mostly what fits.
func (g grower) sessionPlace(name string) string {
	return pick(g, "9", "7", "0", "8", "'q'", "↑"+name, "↑⌽,"+name, name, "⌽"+name, name+"[2]", "2↑"+name, g.sight(1), "3 4", "⍳2", "5 6 7", "⍳6")
}

func (g grower) sessionCall(depth int) string {
	name, own := g.name(), pick(g, "x", "y", "w")
	body := pick(g,
		"⍵", "⌽⍵", "w←⍵⋄w", "W←⍵⋄W[1]←9⋄W", "W←⍵⋄W+←1⋄W", "W←⍵⋄(⌽W)←0⋄W", "W←⍵⋄(2↑W)←0⋄W,⍵", "W←N⋄W[2]←5⋄W", "W←⍵+0⋄W[1]←0⋄W", "W←1 2 3⋄W[1]←≢⍵⋄W", "W←⌽⍵⋄{W←⍵⋄W[1]←3⋄W}W", "1=≢⍵:⍵⋄∇1↓⍵", "2>≢⍵:⍵⋄W←⍵⋄W[1]←7⋄W,∇1↓⍵", "W←⍵⋄v←W⋄W[1]←v[2]⋄W,v", "W←⍵⋄W[1]←u", "W←⍵⋄W[⌽⍳2]←2↑W⋄W[1]",
	)
	body = strings.NewReplacer("W", own, "N", name).Replace(body)
	if g.IntN(4) == 0 {
		return fmt.Sprintf("%s{v←⍺⋄v[1]←⍵⋄v}%d", g.name(), g.IntN(9))
	}
	return "{" + body + "}" + g.sight(depth-1)
}
