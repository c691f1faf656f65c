package tests

import (
	"encoding/binary"
	"fmt"
	"math/big"
	"math/rand/v2"
	"slices"
	"strconv"
	"strings"
	"testing"
	"unicode/utf8"

	"loop.example/s02542/impl"
)

// arrayOkAgain reckons the products with big numbers, where nothing wraps round.
func arrayOkAgain(a impl.Array) bool {
	all, withoutZeros := big.NewInt(1), big.NewInt(1)
	for _, length := range a.Shape {
		if length < 0 || length > 10000 {
			return false
		}
		all.Mul(all, big.NewInt(int64(length)))
		if length != 0 {
			withoutZeros.Mul(withoutZeros, big.NewInt(int64(length)))
		}
	}
	for _, n := range a.Data {
		if a.Char && (n < 0 || n > 0x10FFFF || n >= 0xD800 && n <= 0xDFFF) || n < -1000000000000000 || n > 1000000000000000 {
			return false
		}
	}
	return len(a.Shape) <= 5 && withoutZeros.Cmp(big.NewInt(10000)) <= 0 && all.Cmp(big.NewInt(int64(len(a.Data)))) == 0
}

// showAgain lays an array out by going down its axes, where the program goes through its rows.
func showAgain(a impl.Array) string {
	if !arrayOkAgain(a) || len(a.Data) == 0 && len(a.Shape) > 2 {
		return ""
	}
	words := make([]string, len(a.Data))
	for i, n := range a.Data {
		words[i] = string(rune(n))
		if !a.Char {
			words[i] = strings.ReplaceAll(strconv.Itoa(n), "-", "¯")
		}
	}
	if len(a.Shape) >= 2 && !a.Char {
		widen(words, a.Shape[len(a.Shape)-1])
	}
	gap := " "
	if a.Char {
		gap = ""
	}
	lines := linesOf(a.Shape, words, gap)
	if len(lines) == 0 {
		return ""
	}
	return strings.Join(lines, "\n") + "\n"
}

func widen(words []string, columns int) {
	for column := range columns {
		widest := 0
		for i := column; i < len(words); i += columns {
			widest = max(widest, utf8.RuneCountInString(words[i]))
		}
		for i := column; i < len(words); i += columns {
			words[i] = fmt.Sprintf("%*s", widest, words[i])
		}
	}
}

func linesOf(shape []int, words []string, gap string) []string {
	if len(shape) < 2 {
		return []string{strings.Join(words, gap)}
	}
	var lines []string
	for i := range shape[0] {
		if i > 0 && len(shape) > 2 {
			lines = append(lines, "")
		}
		size := len(words) / shape[0]
		lines = append(lines, linesOf(shape[1:], words[i*size:(i+1)*size], gap)...)
	}
	return lines
}

func checkArray(t *testing.T, a impl.Array) {
	t.Helper()
	own := copyArray(a)
	if got, want := impl.ArrayOk(own), arrayOkAgain(a); got != want {
		t.Fatalf("ArrayOk(%s) = %v; want %v", arrayName(a), got, want)
	}
	text := string(impl.Show(own))
	if want := showAgain(a); text != want {
		t.Fatalf("%s has the text %q; want %q", arrayName(a), text, want)
	}
	if impl.Same(own, a) != arrayOkAgain(a) {
		t.Fatalf("%s: Same does not say whether it is valid", arrayName(a))
	}
	if !isUntouched(own, a) {
		t.Fatalf("%s was written into", arrayName(a))
	}
	if len(a.Data) > 0 && arrayOkAgain(a) {
		checkLines(t, a, text)
	}
}

// checkLines asks promise 2 of the text alone: its lines, and for numbers its columns and that Data can be read back from it.
func checkLines(t *testing.T, a impl.Array, text string) {
	t.Helper()
	if a.Char && slices.Contains(a.Data, '\n') {
		return
	}
	rank := len(a.Shape)
	columns, height := 1, 1
	if rank > 0 {
		columns = a.Shape[rank-1]
	}
	if rank > 1 {
		height = a.Shape[rank-2]
	}
	body, ended := strings.CutSuffix(text, "\n")
	lines := strings.Split(body, "\n")
	rows := len(a.Data) / columns
	if !ended || len(lines) != rows+rows/height-1 {
		t.Fatalf("%s: %d lines in %q", arrayName(a), len(lines), text)
	}
	var data []int
	for i, line := range lines {
		if i%(height+1) == height {
			if line != "" {
				t.Fatalf("%s: line %d of %q is not empty", arrayName(a), i, text)
			}
			continue
		}
		data = append(data, elementsIn(t, a, line)...)
	}
	if !slices.Equal(data, a.Data) {
		t.Fatalf("%s: %q is read back as %v", arrayName(a), text, data)
	}
	if !a.Char {
		checkColumns(t, a, lines)
	}
}

func elementsIn(t *testing.T, a impl.Array, line string) []int {
	t.Helper()
	var data []int
	if a.Char {
		for _, r := range line {
			data = append(data, int(r))
		}
		return data
	}
	for _, word := range strings.Fields(line) {
		n, err := strconv.Atoi(strings.Replace(word, "¯", "-", 1))
		if err != nil || strings.HasPrefix(word, "-") {
			t.Fatalf("%s: %q is no number", arrayName(a), word)
		}
		data = append(data, n)
	}
	return data
}

// checkColumns asks that a column ends at one place in all lines, and that some number in it begins where the blank behind the column before it ends.
func checkColumns(t *testing.T, a impl.Array, lines []string) {
	t.Helper()
	var wantEnds []int
	var first []int
	for _, line := range lines {
		if line == "" {
			continue
		}
		begins, ends := wordPlaces(line)
		if wantEnds == nil {
			wantEnds, first = ends, begins
		}
		if !slices.Equal(ends, wantEnds) {
			t.Fatalf("%s: columns end at %v and at %v", arrayName(a), ends, wantEnds)
		}
		for column, begin := range begins {
			first[column] = min(first[column], begin)
		}
	}
	want := 0
	for column, begin := range first {
		if begin != want {
			t.Fatalf("%s: column %d begins at %d and not at %d", arrayName(a), column, begin, want)
		}
		want = wantEnds[column] + 1
	}
}

// wordPlaces counts in characters.
func wordPlaces(line string) ([]int, []int) {
	var begins, ends []int
	points := []rune(line)
	for i, r := range points {
		if r != ' ' && (i == 0 || points[i-1] == ' ') {
			begins = append(begins, i)
		}
		if r != ' ' && (i == len(points)-1 || points[i+1] == ' ') {
			ends = append(ends, i+1)
		}
	}
	return begins, ends
}

func TestShowAgreesOnArraysByChance(t *testing.T) {
	g := grower{rand.New(rand.NewPCG(9, 2542))}
	for range 20000 {
		checkArray(t, g.array())
	}
}

func TestShowAgreesOnEveryShape(t *testing.T) {
	g := grower{rand.New(rand.NewPCG(10, 2542))}
	for _, shape := range shapesUpTo(3) {
		for _, isChar := range []bool{false, true} {
			a := filled(isChar, shape...)
			checkArray(t, a)
			for i := range a.Data {
				a.Data[i] = g.element(isChar)
			}
			checkArray(t, a)
		}
	}
}

// TestShowTellsArraysOfNumbersApart has all arrays of some few numbers, of each shape of few elements.
func TestShowTellsArraysOfNumbersApart(t *testing.T) {
	for _, shape := range shapesUpTo(5) {
		texts := map[string]string{}
		for _, a := range arraysOf(shape, []int{0, 1, -1, 11, 10, -10, 101}, 4) {
			text := string(impl.Show(a))
			if other, found := texts[text]; found {
				t.Fatalf("%s and %s have the text %q", arrayName(a), other, text)
			}
			texts[text] = arrayName(a)
		}
	}
}

func arraysOf(shape []int, from []int, most int) []impl.Array {
	count := 1
	for _, length := range shape {
		count *= length
	}
	if count > most {
		return nil
	}
	rows := [][]int{nil}
	for range count {
		var longer [][]int
		for _, row := range rows {
			for _, n := range from {
				longer = append(longer, append(slices.Clone(row), n))
			}
		}
		rows = longer
	}
	var arrays []impl.Array
	for _, row := range rows {
		arrays = append(arrays, impl.Array{Shape: shape, Data: row})
	}
	return arrays
}

func TestShowTellsOneChangedNumber(t *testing.T) {
	g := grower{rand.New(rand.NewPCG(11, 2542))}
	for range 20000 {
		a := g.array()
		if a.Char || len(a.Data) == 0 || !arrayOkAgain(a) {
			continue
		}
		b := copyArray(a)
		place := g.IntN(len(b.Data))
		b.Data[place] = pick(g, -b.Data[place], b.Data[place]/10, g.element(false))
		isAlike := slices.Equal(a.Data, b.Data)
		if string(impl.Show(a)) == string(impl.Show(b)) != isAlike || impl.Same(a, b) != isAlike {
			t.Fatalf("%s and %s are not told apart, or are though alike", arrayName(a), arrayName(b))
		}
	}
}

// arrayFrom makes an array of any bytes: a shape, and numbers of eight bytes or of one.
func arrayFrom(isChar bool, isWide bool, shape []byte, data []byte) impl.Array {
	a := impl.Array{Char: isChar}
	for _, length := range shape {
		a.Shape = append(a.Shape, int(int8(length)))
	}
	for len(data) >= 8 && isWide {
		a.Data = append(a.Data, int(binary.LittleEndian.Uint64(data)))
		data = data[8:]
	}
	for _, n := range data {
		a.Data = append(a.Data, int(int8(n)))
	}
	return a
}

func FuzzShow(f *testing.F) {
	f.Add(false, false, []byte{2, 3}, []byte{1, 254, 30, 4, 5, 6})
	f.Add(true, false, []byte{2, 1, 2}, []byte("ab'd"))
	f.Add(false, true, []byte{}, []byte{0, 0, 0, 0, 0, 0, 0, 128})
	f.Add(false, false, []byte{3, 0}, []byte{})
	f.Add(true, true, []byte{2}, []byte{0, 216, 0, 0, 0, 0, 0, 0, 97})
	f.Fuzz(func(t *testing.T, isChar bool, isWide bool, shape []byte, data []byte) {
		checkArray(t, arrayFrom(isChar, isWide, shape, data))
	})
}
