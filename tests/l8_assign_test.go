package tests

import (
	"strings"
	"testing"

	"loop.example/s02542/impl"
)

func TestAssignmentsOfNames(t *testing.T) {
	tell("x←5").has(t, "x", scalar(5))
	tell("x←5 6").has(t, "x", vector(5, 6))
	tell("x←'a'").has(t, "x", letter('a'))
	tell("x←'ab'").has(t, "x", letters("ab"))
	tell("x←''").has(t, "x", noLetter(0))
	tell("x←'⍵😀''é'").has(t, "x", impl.Array{Char: true, Shape: []int{4}, Data: []int{'⍵', 0x1F600, '\'', 'é'}})
	tell("x←⍬").has(t, "x", vector())
	tell("x←⍳0").has(t, "x", vector())
	tell("x←¯1000000000000000 1000000000000000").has(t, "x", vector(-top, top))
	tell("x←2 3⍴⍳6").has(t, "x", filled(false, 2, 3))
	tell("x←1", "x←'ab'", "x←2 0⍴0").has(t, "x", none(2, 0))
	tell("x←1", "x←x+1", "x←x,x").has(t, "x", vector(2, 2))
	tell("x←1⋄y←x⋄x←2").has(t, "y", scalar(1))
	tell("x←1⋄y←x⋄x←2").has(t, "x", scalar(2))
	tell("x←1 2⋄y←x⋄y[1]←9").has(t, "x", vector(1, 2))
	tell("F←{⍵}").hasNo(t, "F")
	tell("x←1").hasNo(t, "y")
	tell("x←y").hasNo(t, "x")
}

func TestAssignmentsShowNothing(t *testing.T) {
	for _, line := range []string{"x←1", "F←{⍵}", "y[1]←2", "y+←1", "(⌽y)←3", "x←1⋄F←{⍵}⋄y[1]←2⋄y+←1⋄(⌽y)←3", ""} {
		tell("y←1 2", line).shows(t, "")
	}
	tell("y←1 2", "y⋄y[1]←2⋄y⋄y+←1⋄'ab'⋄(⌽y)←3⋄y⋄z←y⋄F←{⍵}").shows(t, "1 2\n2 2\nab\n3 3\n")
}

func TestAssignmentsToParts(t *testing.T) {
	shown(t, map[string]string{
		"x←⍳4\nx[2]←9\nx":                     "1 9 3 4\n",
		"x←⍳4\nx[2 4]←9\nx":                   "1 9 3 9\n",
		"x←⍳4\nx[4 2]←8 9\nx":                 "1 9 3 8\n",
		"x←⍳4\nx[2 2 2]←7 8 9\nx":             "1 9 3 4\n",
		"x←⍳4\nx[]←0\nx":                      "0 0 0 0\n",
		"x←⍳4\nx[]←⌽x\nx":                     "4 3 2 1\n",
		"x←⍳4\nx[x]←⌽x\nx":                    "4 3 2 1\n",
		"x←⍳4\nx[⍬]←9\nx":                     "1 2 3 4\n",
		"x←⍳4\nx[⍬]←⍬\nx":                     "1 2 3 4\n",
		"x←⍳4\nx[2]←1 1 1⍴9\nx":               "1 9 3 4\n",
		"x←⍳4\nx[1⍴2]←9\nx":                   "1 9 3 4\n",
		"x←⍳4\nx[2 2⍴⍳4]←2 2⍴4 3 2 1\nx":      "4 3 2 1\n",
		"x←2 3⍴⍳6\nx[;2]←8 9\nx":              "1 8 3\n4 9 6\n",
		"x←2 3⍴⍳6\nx[2;]←0\nx":                "1 2 3\n0 0 0\n",
		"x←2 3⍴⍳6\nx[2;]←7 8 9\nx":            "1 2 3\n7 8 9\n",
		"x←2 3⍴⍳6\nx[;]←-x\nx":                "¯1 ¯2 ¯3\n¯4 ¯5 ¯6\n",
		"x←2 3⍴⍳6\nx[2 1;3 1]←2 2⍴10×⍳4\nx":   "40 2 30\n20 5 10\n",
		"x←'abc'\nx[2]←'z'\nx":                "azc\n",
		"x←2 2⍴'abcd'\nx[;1]←'xy'\nx":         "xb\nyd\n",
		"x←''\nx[]←'a'\nx":                    "\n",
		"x←⍳3\nF←{x←⍵⋄x[1]←9⋄x}\n(F x),x":     "9 2 3 1 2 3\n",
		"x←⍳3\ny←x\nz←⌽x\nx[1]←9\ny,z":        "1 2 3 3 2 1\n",
		"x←⍳3\nx[1]←9⋄x[2]←8⋄x[3]←7\nx":       "9 8 7\n",
		"x←1 2 3\nx[1 2]←x[2 1]\nx":           "2 1 3\n",
		"x←⍳3⋄x[{x←3⋄x}1]←{x←9⋄x}1\nx":        "1 2 9\n",
		"x←3 0⍴0\nx[2;]←5\n⍴x":                "3 0\n",
		"x←1 1⍴5\nx[1;1]←7\nx":                "7\n",
		"x←2 2 2⍴⍳8\nx[2;;1]←0\n,x":           "1 2 3 4 0 6 0 8\n",
		"x←1000000000000000\nx+←0\nx":         "1000000000000000\n",
		"x←2 2⍴0\nx[1;1]←1⋄x[2;2]←1\nx[1;]":   "1 0\n",
		"x←5 6\nx[2]←'b'⋄1\nx":                "5 6\n",
		"x←5 6\nx[2]←7⋄x[3]←8\nx":             "5 6\n",
		"x←5 6\nx[2]←7⋄y←1÷0\nx":              "5 6\n",
		"x←5 6\nx[2]←7⋄x+←1⋄(⌽x)←x⋄x[1;2]\nx": "5 6\n",
	})
}

func TestCodesOfAssignmentsToParts(t *testing.T) {
	failed(t, map[string]int{
		"x←⍳4\nx[1;2]←9": impl.ErrRank, "x←5\nx[1]←9": impl.ErrRank, "x←2 2⍴0\nx[1]←9": impl.ErrRank, "x←2 2⍴0\nx[]←9": impl.ErrRank,
		"x←⍳4\nx['a']←9": impl.ErrDomain, "x←⍳4\nx['']←9": impl.ErrDomain, "x←⍳4\nx[5]←9": impl.ErrIndex, "x←⍳4\nx[0]←9": impl.ErrIndex, "x←⍳4\nx[¯1]←9": impl.ErrIndex, "x←⍬\nx[1]←9": impl.ErrIndex,
		"x←⍳4\nx[1 2]←1 2 3": impl.ErrLength, "x←⍳4\nx[1 2]←⍬": impl.ErrLength, "x←⍳4\nx[1 2]←1 2⍴0": impl.ErrRank, "x←⍳4\nx[1]←1 2": impl.ErrRank, "x←⍳4\nx[]←1 2 3": impl.ErrLength, "x←2 3⍴0\nx[;]←3 2⍴0": impl.ErrLength,
		"x←⍳4\nx[1]←'a'": impl.ErrDomain, "x←'abc'\nx[1]←1": impl.ErrDomain, "x←⍳4\nx[⍬]←'a'": impl.ErrDomain, "x←⍳4\nx[1 2]←'abc'": impl.ErrLength, "x←⍳4\nx[1 2]←'ab'": impl.ErrDomain, "x←''\nx[]←1": impl.ErrDomain, "x←''\nx[]←⍬": impl.ErrDomain,
		"x←⍳4\nx[101 100⍴1]←9": impl.ErrLimit, "x←200 200⍴0": impl.ErrLimit, "x←100 100⍴0\nx[200⍴1;100⍴1]←9": impl.ErrLimit, "x←⍳4\nx[1 1 1 1 1 1⍴1]←9": impl.ErrLimit, "x←2 2⍴0\nx[1 1 1⍴1;1 1 1⍴1]←9": impl.ErrLimit,
		"u[1]←9": impl.ErrValue, "F←{⍵}\nu[1]←9": impl.ErrValue,
	})
}

func TestAssignmentsByAFunction(t *testing.T) {
	for i, want := range []string{"13 11\n", "7 5\n", "30 24\n", "", "3 3\n", "10 8\n", "3 3\n", "1000 512\n", "0 0\n", "1 1\n", "0 0\n", "0 0\n", "1 1\n", "1 1\n", "", ""} {
		sign := primSigns[i]
		if want == "" {
			tell("x←10 8", "x"+sign+"←3").fails(t, impl.ErrDomain)
			continue
		}
		if sign == "|" {
			// The name's array is the function's first argument.
			tell("x←10 8", "x|←3", "x").shows(t, "3 3\n")
			tell("x←3 5", "x|←10 8", "x").shows(t, "1 3\n")
			continue
		}
		tell("x←10 8", "x"+sign+"←3", "x").shows(t, want)
	}
	shown(t, map[string]string{
		"x←6 8\nx÷←2\nx": "3 4\n", "x←1 0 1\nx∧←1 1 0\nx": "1 0 0\n", "x←1 0\nx∨←0\nx": "1 0\n", "x←5\nx+←1 2 3\nx": "6 7 8\n", "x←1⍴5\nx+←2 2⍴⍳4\nx": "6 7\n8 9\n", "x←5\nx+←1 1⍴1\n⍴x": "1 1\n", "x←⍬\nx+←1\nx": "\n", "x←5\nx+←⍬\nx": "\n",
		"x←'ab'\nx=←'b'\nx": "0 1\n", "x←'ab'\nx≠←1 2\nx": "1 1\n", "x←1 2\nx+←x\nx": "2 4\n", "x←1 2\ny←x\nx-←1\ny": "1 2\n", "x←1 2⋄x+←1⋄x×←x\nx": "4 9\n", "F←{x←⍵⋄x*←2⋄x}\nF 5": "25\n",
	})
	failed(t, map[string]int{
		"x←1 2\nx+←1 2 3": impl.ErrLength, "x←1 2\nx+←2 2⍴1": impl.ErrRank, "x←1 2\nx+←'a'": impl.ErrDomain, "x←'ab'\nx+←1": impl.ErrDomain, "x←'ab'\nx<←'b'": impl.ErrDomain, "x←1 2\nx÷←0": impl.ErrDomain, "x←3\nx÷←2": impl.ErrDomain, "x←2\nx*←¯1": impl.ErrDomain, "x←2\nx*←60": impl.ErrLimit, "x←1000000000000000\nx+←1": impl.ErrLimit,
		"x←2 0\nx∧←1": impl.ErrDomain, "x←2 0\nx∨←1": impl.ErrDomain, "u+←1": impl.ErrValue, "F←{⍵}\nu=←1": impl.ErrValue,
	})
}

func TestAssignmentsToSelections(t *testing.T) {
	shown(t, map[string]string{
		"x←⍳4\n(⌽x)←9 8 7 6\nx":                 "6 7 8 9\n",
		"x←2 3⍴⍳6\n(⌽x)←x\nx":                   "3 2 1\n6 5 4\n",
		"x←2 3⍴⍳6\n(⊖x)←x\nx":                   "4 5 6\n1 2 3\n",
		"x←2 3⍴⍳6\n(⍉x)←3 2⍴⍳6\nx":              "1 3 5\n2 4 6\n",
		"x←2 3⍴⍳6\n(,x)←10×⍳6\nx":               "10 20 30\n40 50 60\n",
		"x←2 3⍴⍳6\n(,x)←0\nx":                   "0 0 0\n0 0 0\n",
		"x←⍳4\n(1⌽x)←x\nx":                      "4 1 2 3\n",
		"x←2 3⍴⍳6\n(1⊖x)←x\nx":                  "4 5 6\n1 2 3\n",
		"x←2 3⍴⍳6\n(2 1⍉x)←3 2⍴0 1\nx":          "0 0 0\n1 1 1\n",
		"x←⍳5\n(2↑x)←0\nx":                      "0 0 3 4 5\n",
		"x←⍳5\n(¯2↑x)←8 9\nx":                   "1 2 3 8 9\n",
		"x←⍳5\n(2↓x)←0\nx":                      "1 2 0 0 0\n",
		"x←⍳5\n(¯2↓x)←7 8 9\nx":                 "7 8 9 4 5\n",
		"x←⍳5\n(9↓x)←0\nx":                      "1 2 3 4 5\n",
		"x←⍳5\n(9↓x)←⍬\nx":                      "1 2 3 4 5\n",
		"x←⍳5\n(0↑x)←0\nx":                      "1 2 3 4 5\n",
		"x←⍳5\n(5↑x)←0\nx":                      "0 0 0 0 0\n",
		"x←⍳5\n(¯5↑x)←x+1\nx":                   "2 3 4 5 6\n",
		"x←3 3⍴⍳9\n(2 2↑x)←0\nx":                "0 0 3\n0 0 6\n7 8 9\n",
		"x←3 3⍴⍳9\n(1 ¯1↓x)←2 2⍴0\nx":           "1 2 3\n0 0 6\n0 0 9\n",
		"x←⍳5\n(x[2 4])←0\nx":                   "1 0 3 0 5\n",
		"x←⍳3\n(x[1 1])←7 8\nx":                 "8 2 3\n",
		"x←⍳3\n(x[1 2 1 2])←6 7 8 9\nx":         "8 9 3\n",
		"x←⍳3\n(x[2 2⍴1 2 1 2])←2 2⍴6 7 8 9\nx": "8 9 3\n",
		"x←2 3⍴⍳6\n(x[;2])←8 9\nx":              "1 8 3\n4 9 6\n",
		"x←2 3⍴⍳6\n(x[1;])←7 8 9\nx":            "7 8 9\n4 5 6\n",
		"x←⍳5\n(2↑⌽x)←0\nx":                     "1 2 3 0 0\n",
		"x←⍳5\n((⌽x)[1 2])←8 9\nx":              "1 2 3 9 8\n",
		"x←⍳5\n(⌽2↑x)←8 9\nx":                   "9 8 3 4 5\n",
		"x←⍳5\n(2↑2↓x)←8 9\nx":                  "1 2 8 9 5\n",
		"x←2 3⍴⍳6\n(2↑,⍉x)←8 9\nx":              "8 2 3\n9 5 6\n",
		"x←2 3⍴⍳6\n((,x)[2 5])←8 9\nx":          "1 8 3\n4 9 6\n",
		"x←2 3⍴⍳6\n((⍉x)[3;])←0\nx":             "1 2 0\n4 5 0\n",
		"x←⍳6\n(x[2 4 6][2 3])←8 9\nx":          "1 2 3 8 5 9\n",
		"x←⍳6\n((x[2 4 6])[2 3])←8 9\nx":        "1 2 3 8 5 9\n",
		"x←⍳6\n((((⌽x))))←0\nx":                 "0 0 0 0 0 0\n",
		"x←'abc'\n(⌽x)←'xyz'\nx":                "zyx\n",
		"x←'abc'\n(2↑x)←'-'\nx":                 "--c\n",
		"x←'abc'\n(x[1 3])←'pq'\nx":             "pbq\n",
		"x←5\n(⌽x)←7\nx":                        "7\n",
		"x←5\n(,x)←7\nx":                        "7\n",
		"x←5\n(,x)←1⍴7\n⍴x":                     "\n",
		"x←5\n(1 1↑x)←7\nx":                     "7\n",
		"x←5\n(⍬↑x)←7\nx":                       "7\n",
		"x←5\n(0↑x)←7\nx":                       "5\n",
		"x←5\n(¯1↑x)←7\nx":                      "7\n",
		"x←⍬\n(⌽x)←7\nx":                        "\n",
		"x←⍬\n(,x)←⍬\nx":                        "\n",
		"x←0 3⍴0\n(⍉x)←3 0⍴0\n⍴x":               "0 3\n",
		"x←⍳3\ny←x\nz←⌽x\n(2↑x)←9\ny,z":         "1 2 3 3 2 1\n",
		"x←⍳3\nF←{x←⍵⋄(1↑x)←9⋄x}\n(F x),x":      "9 2 3 1 2 3\n",
		"x←⍳3\n(x[x])←⌽x\nx":                    "3 2 1\n",
		"x←2 1\n(x[x])←8 9\nx":                  "9 8\n",
		"x←⍳3\n(x[1]⌽x)←7 8 9\nx":               "9 7 8\n",
		"x←⍳3\n((≢x)↑x)←x+1\nx":                 "2 3 4\n",
		"x←⍳3\n(({x←2⋄x}1)↑x)←0\nx":             "0 0 3\n",
		"x←⍳3\n(2↑x)←1⍴9\nx":                    "9 9 3\n",
		"x←⍳3\n(2↑x)←1 1 1⍴9\nx":                "9 9 3\n",
		"x←2 2 2⍴⍳8\n(1 ¯1 2↑x)←0\n,x":          "1 2 0 0 5 6 7 8\n",
		"x←2 2 2⍴⍳8\n(3 1 2⍉x)←x\n,x":           "1 3 5 7 2 4 6 8\n",
		"x←10000⍴0\n(⌽x)←1\n+/x":                "10000\n",
		"x←5 6 7\n(⌽x)←1⋄(⌽x)←1 2\nx":           "5 6 7\n",
	})
}

func TestCodesOfAssignmentsToSelections(t *testing.T) {
	failed(t, map[string]int{
		// More than there is, along any axis; Take's own codes come first.
		"x←⍳3\n(4↑x)←1": impl.ErrIndex, "x←⍳3\n(¯4↑x)←1": impl.ErrIndex, "x←⍳3\n(10000↑x)←1": impl.ErrIndex, "x←⍳3\n(10001↑x)←1": impl.ErrLimit, "x←⍳3\n(¯10001↑x)←1": impl.ErrLimit, "x←⍳3\n(1 2↑x)←1": impl.ErrLength, "x←⍳3\n('a'↑x)←1": impl.ErrDomain, "x←⍳3\n((1 1⍴1)↑x)←1": impl.ErrRank, "x←⍳3\n((1 1⍴9)↑x)←1": impl.ErrRank,
		"x←2 3⍴0\n(3 3↑x)←1": impl.ErrIndex, "x←2 3⍴0\n(2 4↑x)←1": impl.ErrIndex, "x←2 3⍴0\n(2 ¯4↑x)←1": impl.ErrIndex, "x←2 3⍴0\n(0 4↑x)←1": impl.ErrIndex, "x←2 3⍴0\n(4 0↑x)←⍬": impl.ErrIndex, "x←2 3⍴0\n(¯3 0↑x)←1": impl.ErrIndex, "x←5\n(2↑x)←1": impl.ErrIndex, "x←5\n(1 2↑x)←1": impl.ErrIndex, "x←5\n(1 0 2↑x)←1": impl.ErrIndex, "x←5\n(1 1 1 1 1 1↑x)←1": impl.ErrLimit, "x←⍬\n(1↑x)←1": impl.ErrIndex, "x←0 3⍴0\n(1 0↑x)←1": impl.ErrIndex,
		"x←⍳5\n(4↑2↓x)←1": impl.ErrIndex, "x←⍳5\n(2↑6↑x)←1": impl.ErrIndex, "x←⍳5\n(2↑0↑x)←1": impl.ErrIndex, "x←⍳5\n((6↑x)[1])←1": impl.ErrIndex, "x←'abc'\n(4↑x)←' '": impl.ErrIndex, "x←⍳3\n(4↑x)←'a'": impl.ErrIndex, "x←⍳3\n(4↑x)←1 2": impl.ErrIndex,
		// The codes of the others.
		"x←⍳3\n(x[4])←1": impl.ErrIndex, "x←⍳3\n(x[0])←1": impl.ErrIndex, "x←⍳3\n(x[1;1])←1": impl.ErrRank, "x←⍳3\n(x['a'])←1": impl.ErrDomain, "x←⍳3\n(x[101 100⍴1])←1": impl.ErrLimit, "x←5\n(x[])←7": impl.ErrRank,
		"x←⍳3\n(1 2⌽x)←1": impl.ErrLength, "x←⍳3\n('a'⌽x)←1": impl.ErrDomain, "x←⍳3\n('a'⊖x)←1": impl.ErrDomain, "x←⍳3\n(1 2⍉x)←1": impl.ErrLength, "x←2 2⍴0\n(1 1⍉x)←1": impl.ErrDomain, "x←2 2⍴0\n((1 2⍴1 2)⍉x)←1": impl.ErrRank, "x←2 2⍴0\n(1↓x)←1": impl.ErrLength, "x←2 2⍴0\n('ab'↓x)←1": impl.ErrDomain,
		// What b must be.
		"x←⍳3\n(⌽x)←1 2": impl.ErrLength, "x←⍳3\n(⌽x)←⍬": impl.ErrLength, "x←⍳3\n(⌽x)←1 3⍴1": impl.ErrRank, "x←2 3⍴0\n(⍉x)←2 3⍴1": impl.ErrLength, "x←2 3⍴0\n(,x)←2 3⍴1": impl.ErrRank, "x←⍳3\n(x[2])←1 2": impl.ErrRank, "x←⍳3\n(x[1⍴2])←1 2": impl.ErrLength, "x←⍳3\n(0↑x)←1 2": impl.ErrLength, "x←⍳3\n(0↑x)←0 0⍴1": impl.ErrRank,
		"x←⍳3\n(⌽x)←'a'": impl.ErrDomain, "x←⍳3\n(⌽x)←'abc'": impl.ErrDomain, "x←'abc'\n(⌽x)←1": impl.ErrDomain, "x←'abc'\n(⌽x)←1 2 3": impl.ErrDomain, "x←⍳3\n(0↑x)←'a'": impl.ErrDomain, "x←⍳3\n(0↑x)←''": impl.ErrDomain, "x←''\n(⌽x)←⍬": impl.ErrDomain, "x←⍳3\n(⌽x)←'ab'": impl.ErrLength, "x←'abc'\n(⌽x)←2 2⍴1": impl.ErrRank,
		"(⌽u)←1": impl.ErrValue, "F←{⍵}\n(⌽u)←1": impl.ErrValue, "(u[1])←1": impl.ErrValue, "(2↑u)←1": impl.ErrValue,
	})
	tell(strings.Split("x←⍳3\n(x)←1", "\n")...).fails(t, impl.ErrSyntax)
}
