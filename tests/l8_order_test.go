package tests

import (
	"fmt"
	"strings"
	"testing"

	"loop.example/s02542/impl"
)

// faultsOf are exprs in brackets, each with a code of its own, for the places A, B, C and D of a line.
var faultsOf = []struct {
	expr string
	code int
}{{"(u)", impl.ErrValue}, {"(1÷0)", impl.ErrDomain}, {"(1 2+1 2 3)", impl.ErrLength}, {"(1 2[3])", impl.ErrIndex}}

// ordered is a line with the places A, B, .. in it, the order in which they come, and what stands at a place that has no fault.
type ordered struct {
	line  string
	order string
	good  string
}

// wantOrder asks, for any places with faults, for the code of the one that comes first, whichever fault stands there.
func wantOrder(t *testing.T, o ordered) {
	t.Helper()
	places := len(o.order)
	for chosen := range 1 << places {
		for turn := range len(faultsOf) {
			line, code := o.line, 0
			for i, letter := range strings.Split("ABCD"[:places], "") {
				fault := faultsOf[(i+turn)%len(faultsOf)]
				expr := o.good
				if chosen&(1<<i) != 0 {
					expr = fault.expr
				}
				line = strings.ReplaceAll(line, letter, expr)
			}
			for i := places - 1; i >= 0; i-- {
				place := int(o.order[i] - 'A')
				if chosen&(1<<place) != 0 {
					code = faultsOf[(place+turn)%len(faultsOf)].code
				}
			}
			tell("x←2 2⍴1", "y←1 1", "z←1", line).fails(t, code)
		}
	}
}

func TestKidsComeFromTheLastToTheFirst(t *testing.T) {
	for _, o := range []ordered{
		{"A+B", "BA", "1"},
		{"A+B×C", "CBA", "1"},
		{"(A+B)×C", "CBA", "1"},
		{"(A+B)×C-D", "DCBA", "1"},
		{"A,-B", "BA", "1"},
		{"A∘.+B", "BA", "1"},
		{"A+.×B", "BA", "1"},
		{"A{⍺+⍵}B", "BA", "1"},
		{"(x[A;B])+C", "CBA", "1"},
		{"x[A;B]", "BA", "1"},
		{"x[A;]+C-x[;B]", "BCA", "1"},
		{"1 1 1[A]", "A", "1"},
		{"1 1 1[A][B]", "BA", "1 1"},
		{"(1 1 1⍴1)[A;B;C]", "CBA", "1"},
		{"(A⍴1)[B]", "BA", "1"},
		{"{⍵}A[B]", "BA", "1 1"},
		{"y←A+B", "BA", "1"},
		{"x[A;B]←C", "CBA", "1"},
		{"x[A;]←B+C", "CBA", "1"},
		{"x[;A]←B", "BA", "1"},
		{"y[A+B]←C", "CBA", "1"},
		{"x+←A×B", "BA", "1"},
		{"(x[A;B])←C", "CBA", "1"},
		{"(A⌽x)←B", "BA", "1"},
		{"(A⌽B⊖x)←C", "CBA", "1"},
		{"(A↑y[B])←C", "CBA", "1"},
		{"((A↓y)[B])←C", "CBA", "1"},
		{"((A⌽x)[B;C])←D", "DCBA", "1"},
		{"(y[A][B])←C", "CBA", "1 1"},
		{"(A⌽x[B;C])←D", "DCBA", "1"},
	} {
		wantOrder(t, o)
	}
}

// TestItemsComeFromTheFirstToTheLast has stmts, items and the two sides of a guard, of which only one that counts is evaluated.
func TestItemsComeFromTheFirstToTheLast(t *testing.T) {
	for _, o := range []ordered{
		{"A⋄B", "AB", "1"},
		{"A⋄y[B]←C⋄x[D;]←1", "ACBD", "1"},
		{"y←A⋄B⋄(C⌽y)←D", "ABDC", "1"},
		{"{x←A⋄y←B⋄C}1", "ABC", "1"},
		{"{A:B}1", "AB", "1"},
		{"{A=0:1⋄B=0:1⋄C:D}1", "ABCD", "1"},
		{"{0=A:u⋄B}1", "AB", "1"},
		{"{A:B⋄u}1", "AB", "1"},
		{"{A⋄u}1", "A", "1"},
		{"{x←A,1⋄x[B]←C⋄(x[1])←D⋄3}1", "ACBD", "1"},
	} {
		wantOrder(t, o)
	}
}

// TestOwnCodesComeBehindThoseOfKids has functions, indexes and stmts with a code of their own.
func TestOwnCodesComeBehindThoseOfKids(t *testing.T) {
	for line, code := range map[string]int{
		"A+/B": impl.ErrSyntax, "A+\\B": impl.ErrSyntax, "A⍋B": impl.ErrSyntax, "A H B": impl.ErrValue, "A∇B": impl.ErrValue, "{}A": impl.ErrValue, "A{}B": impl.ErrValue, "∘.+A": impl.ErrSyntax, "+.×A": impl.ErrSyntax, "H A": impl.ErrValue,
		"y[A;B]": impl.ErrRank, "x[A;B+8]": impl.ErrIndex, "(A,B,C)+1 1": impl.ErrLength, "y[A;B]←C": impl.ErrRank, "x[A;3]←B": impl.ErrIndex, "x[A;]←B,C,D": impl.ErrLength, "y+←A,B,C": impl.ErrLength, "y÷←A-B": impl.ErrDomain,
		"(A⌽x)←B,C": impl.ErrRank, "(y[A;B])←C": impl.ErrRank, "(A↑y[B])←C,D": impl.ErrLength, "((A+8)↑y)←B": impl.ErrIndex, "(A⌽y)←⍳B+C+D": impl.ErrLength,
	} {
		good := strings.NewReplacer("A", "1", "B", "1", "C", "1", "D", "1").Replace(line)
		tell("x←2 2⍴1", "y←1 1", good).fails(t, code)
		for at, letter := range strings.Split("ABCD", "") {
			if strings.Contains(line, letter) {
				faulty := strings.NewReplacer(letter, faultsOf[at].expr, "A", "1", "B", "1", "C", "1", "D", "1").Replace(line)
				tell("x←2 2⍴1", "y←1 1", faulty).fails(t, faultsOf[at].code)
			}
		}
	}
}

// TestWhenANameMustBeThere tells the code of a name that is not there from those beside it: for parts and functions it comes behind all kids, for selections right behind b.
func TestWhenANameMustBeThere(t *testing.T) {
	for line, code := range map[string]int{
		"u[1]←2": impl.ErrValue, "u[1÷0]←2": impl.ErrDomain, "u[1]←1÷0": impl.ErrDomain, "u[1 2[3]]←1 2+1 2 3": impl.ErrLength,
		"u[1 2+1 2 3;1 2[3]]←1": impl.ErrIndex, "u[1 2+1 2 3;1]←1": impl.ErrLength, "u[;]←1": impl.ErrValue, "u[0]←'a'": impl.ErrValue,
		"u+←1": impl.ErrValue, "u÷←0": impl.ErrValue, "u+←1÷0": impl.ErrDomain, "u+←1 2[3]": impl.ErrIndex, "u+←'a'": impl.ErrValue,
		"(⌽u)←1": impl.ErrValue, "(⌽u)←1÷0": impl.ErrDomain, "((1÷0)⌽u)←1": impl.ErrValue, "(u[1÷0])←1": impl.ErrValue, "(u[1÷0])←1 2[3]": impl.ErrIndex, "(1 2↑u[1÷0])←1": impl.ErrValue, "((1÷0)↑⌽u)←⍬": impl.ErrValue,
	} {
		tell(line).fails(t, code)
		tell("u←1", "u←2⋄1÷0", "{u←9⋄u}1", "F←{"+line+"⋄1}", "F 1").fails(t, code)
		tell("F←{"+line+"⋄1}", "F 1").fails(t, code)
		tell(fmt.Sprintf("{u←1⋄{%s⋄1}1}1", line)).fails(t, code)
	}
}
