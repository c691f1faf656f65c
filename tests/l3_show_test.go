package tests

import (
	"slices"
	"strings"
	"testing"

	"loop.example/s02542/impl"
)

func wantShown(t *testing.T, a impl.Array, want string) {
	t.Helper()
	own := copyArray(a)
	if got := impl.Show(own); string(got) != want {
		t.Errorf("%s has the text %q; want %q", arrayName(a), got, want)
	}
	if !isUntouched(own, a) {
		t.Errorf("%s was written into", arrayName(a))
	}
}

func TestShowScalars(t *testing.T) {
	for n, want := range map[int]string{
		0: "0\n", 7: "7\n", -7: "¯7\n", 10: "10\n", -120: "¯120\n", 55296: "55296\n",
		impl.MaxInt: "1000000000000000\n", -impl.MaxInt: "¯1000000000000000\n", impl.MaxInt - 1: "999999999999999\n", 1 - impl.MaxInt: "¯999999999999999\n",
		impl.MaxInt + 1: "", -impl.MaxInt - 1: "",
	} {
		wantShown(t, numbers(nil, n), want)
	}
	for n, want := range map[int]string{
		97: "a\n", 32: " \n", 39: "'\n", 0: "\x00\n", 9: "\t\n", 13: "\r\n", 127: "\x7f\n", 128: "\xc2\x80\n", 0x7FF: "\xdf\xbf\n", 0x800: "\xe0\xa0\x80\n", 9077: "⍵\n",
		0xD7FF: "\xed\x9f\xbf\n", 0xE000: "\xee\x80\x80\n", 0xFFFD: "\xef\xbf\xbd\n", 0xFFFF: "\xef\xbf\xbf\n", 0x10000: "\xf0\x90\x80\x80\n", 128512: "😀\n", 0x10FFFF: "\xf4\x8f\xbf\xbf\n",
		-1: "", 0xD800: "", 0xDFFF: "", 0x110000: "",
	} {
		wantShown(t, impl.Array{Char: true, Data: []int{n}}, want)
	}
}

// TestShowVectors has numbers of many widths, as a vector has no blanks but the one between two.
func TestShowVectors(t *testing.T) {
	for want, data := range map[string][]int{
		"5\n": {5}, "¯5\n": {-5}, "1 2 3\n": {1, 2, 3}, "1 ¯2\n": {1, -2}, "100 1 ¯1000 0 22\n": {100, 1, -1000, 0, 22}, "0 0 0\n": {0, 0, 0},
		"1000000000000000 1 ¯1000000000000000\n": {impl.MaxInt, 1, -impl.MaxInt},
	} {
		wantShown(t, numbers([]int{len(data)}, data...), want)
	}
	for _, text := range []string{"a", "abc", "it's", "''", " ", "  a  ", "a⍵c", "é⍵😀", "¯1 2", "tab\there", "\x00\x7f", "\uFFFD\U0010FFFF"} {
		wantShown(t, characters([]int{len([]rune(text))}, text), text+"\n")
	}
}

func TestShowRankTwo(t *testing.T) {
	for _, c := range []struct {
		want string
		a    impl.Array
	}{
		{"1 2 3\n4 5 6\n", numbers([]int{2, 3}, 1, 2, 3, 4, 5, 6)},
		{"1 ¯2 30\n4  5  6\n", numbers([]int{2, 3}, 1, -2, 30, 4, 5, 6)},
		{"  1\n ¯2\n 10\n¯10\n  0\n", numbers([]int{5, 1}, 1, -2, 10, -10, 0)},
		{"1 ¯20 300\n", numbers([]int{1, 3}, 1, -20, 300)},
		{"5\n", numbers([]int{1, 1}, 5)},
		{"¯1  100 7\n10   ¯2 7\n 3 ¯300 7\n", numbers([]int{3, 3}, -1, 100, 7, 10, -2, 7, 3, -300, 7)},
		{"1000000000000000                 1\n               0 ¯1000000000000000\n", numbers([]int{2, 2}, impl.MaxInt, 1, 0, -impl.MaxInt)},
		{"¯99 1\n100 1\n", numbers([]int{2, 2}, -99, 1, 100, 1)},
		{" 99 1\n¯99 1\n", numbers([]int{2, 2}, 99, 1, -99, 1)},
		{"ab\ncd\n", characters([]int{2, 2}, "abcd")},
		{"a⍵ \n😀'é\n", characters([]int{2, 3}, "a⍵ 😀'é")},
		{"a\nb\nc\n", characters([]int{3, 1}, "abc")},
		{"   \n   \n", characters([]int{2, 3}, "      ")},
		{"abc\n", characters([]int{1, 3}, "abc")},
	} {
		wantShown(t, c.a, c.want)
	}
}

// TestShowHigherRanks has one empty line between two parts, at whatever axis they change, and columns as wide as in the widest part.
func TestShowHigherRanks(t *testing.T) {
	for _, c := range []struct {
		want string
		a    impl.Array
	}{
		{"1  2\n\n3 40\n", numbers([]int{2, 1, 2}, 1, 2, 3, 40)},
		{"  1 2\n  3 4\n\n  5 6\n¯70 8\n", numbers([]int{2, 2, 2}, 1, 2, 3, 4, 5, 6, -70, 8)},
		{"1 2\n3 4\n", numbers([]int{1, 2, 2}, 1, 2, 3, 4)},
		{"1\n\n2\n\n3\n", numbers([]int{3, 1, 1}, 1, 2, 3)},
		{"1 2\n\n3 4\n\n5 6\n\n7 8\n", numbers([]int{2, 2, 1, 2}, 1, 2, 3, 4, 5, 6, 7, 8)},
		{"1\n2\n\n3\n4\n\n5\n6\n\n7\n8\n", numbers([]int{2, 1, 2, 2, 1}, 1, 2, 3, 4, 5, 6, 7, 8)},
		{" 1\n\n¯1\n\n 2\n\n 3\n", numbers([]int{2, 1, 2, 1, 1}, 1, -1, 2, 3)},
		{"7\n", numbers([]int{1, 1, 1, 1, 1}, 7)},
		{"ab\n\ncd\n", characters([]int{2, 1, 2}, "abcd")},
		{"ab\ncd\n\n⍵f\n h\n", characters([]int{2, 2, 2}, "abcd⍵f h")},
		{"a\n\nb\n\nc\n\nd\n", characters([]int{2, 1, 2, 1, 1}, "abcd")},
		{"", numbers([]int{1, 1, 1, 1, 1, 1}, 7)},
	} {
		wantShown(t, c.a, c.want)
	}
}

// TestShowWithoutElements has the 0 at each place of a shape, beside numbers up to 3.
func TestShowWithoutElements(t *testing.T) {
	asked := 0
	for _, shape := range shapesUpTo(3) {
		if !slices.Contains(shape, 0) {
			continue
		}
		want := ""
		switch len(shape) {
		case 1:
			want = "\n"
		case 2:
			want = strings.Repeat("\n", shape[0])
		}
		wantShown(t, impl.Array{Shape: shape}, want)
		wantShown(t, impl.Array{Char: true, Shape: shape}, want)
		asked++
	}
	if asked != 1+7+37+175+781 {
		t.Errorf("%d shapes", asked)
	}
	wantShown(t, impl.Array{Shape: []int{10000, 0}}, strings.Repeat("\n", 10000))
	wantShown(t, impl.Array{Char: true, Shape: []int{10000, 0}}, strings.Repeat("\n", 10000))
	wantShown(t, impl.Array{Shape: []int{0, 10000}}, "")
	wantShown(t, impl.Array{Shape: []int{10000, 1, 0}}, "")
	wantShown(t, impl.Array{Shape: []int{10001, 0}}, "")
}

func TestShowOfManyCells(t *testing.T) {
	wantShown(t, characters([]int{10000}, strings.Repeat("⍵", 10000)), strings.Repeat("⍵", 10000)+"\n")
	wantShown(t, characters([]int{10000, 1}, strings.Repeat("⍵", 10000)), strings.Repeat("⍵\n", 10000))
	wantShown(t, numbers([]int{10000}, make([]int, 10000)...), strings.Repeat("0 ", 9999)+"0\n")
	column := make([]int, 10000)
	column[9999] = -impl.MaxInt
	wantShown(t, numbers([]int{10000, 1}, column...), strings.Repeat(strings.Repeat(" ", 16)+"0\n", 9999)+"¯1000000000000000\n")
	wantShown(t, numbers([]int{10000, 1, 1}, column...), strings.Repeat(strings.Repeat(" ", 16)+"0\n\n", 9999)+"¯1000000000000000\n")
	wantShown(t, numbers([]int{1, 10000}, column...), strings.Repeat("0 ", 9999)+"¯1000000000000000\n")
	wantShown(t, numbers([]int{10001}, make([]int, 10001)...), "")
}

// TestShowCharacterTen is about a byte 10 that is an element: it is its own UTF-8 like any other.
func TestShowCharacterTen(t *testing.T) {
	wantShown(t, characters(nil, "\n"), "\n\n")
	wantShown(t, characters([]int{3}, "a\nb"), "a\nb\n")
	wantShown(t, characters([]int{2, 2}, "a\n\nb"), "a\n\n\nb\n")
}

func TestShowBytesAreTheCallersOwn(t *testing.T) {
	for _, a := range []impl.Array{
		numbers(nil, -7), numbers([]int{3}, 1, -20, 3), characters([]int{2, 2}, "a⍵'d"), numbers([]int{2, 1, 2}, 1, 2, 3, 40), {Shape: []int{0}}, {Char: true, Shape: []int{3, 0}},
	} {
		was := copyArray(a)
		first, second := impl.Show(a), impl.Show(a)
		want := string(first)
		for i := range first {
			first[i] = 'x'
		}
		first = append(first, 'y')
		if string(second) != want || string(impl.Show(a)) != want {
			t.Errorf("%s: the text hangs on what was done with an earlier one", arrayName(a))
		}
		clear(a.Data)
		if string(second) != want {
			t.Errorf("%s: the text hangs on its argument", arrayName(was))
		}
	}
}
