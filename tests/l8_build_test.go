package tests

import (
	"bytes"
	"fmt"
	"slices"
	"strconv"
	"strings"
	"testing"

	"loop.example/s02542/impl"
)

var codeNames = []string{"", "SYNTAX ERROR\n", "VALUE ERROR\n", "DOMAIN ERROR\n", "RANK ERROR\n", "LENGTH ERROR\n", "INDEX ERROR\n", "LIMIT ERROR\n", "FUEL ERROR\n", "WS FULL\n"}

// told are lines that are carried out with some fuel.
type told struct {
	lines []string
	fuel  int
}

func tell(lines ...string) told { return told{lines, impl.MaxWork} }

func (s told) with(fuel int) told        { return told{s.lines, fuel} }
func (s told) then(lines ...string) told { return told{slices.Concat(s.lines, lines), s.fuel} }
func (s told) upTo(count int) told       { return told{s.lines[:count], s.fuel} }

func (s told) String() string {
	return fmt.Sprintf("%q with %d", s.lines, s.fuel)
}

// bytes are the lines, each with a mark behind its end, and a line behind the last one.
func (s told) bytes() [][]byte {
	var list [][]byte
	for _, line := range s.lines {
		list = append(list, append([]byte(line), "##"...)[:len(line)])
	}
	return append(list, []byte("##"))[:len(s.lines)]
}

func (s told) wantUntouched(t *testing.T, own [][]byte) {
	t.Helper()
	for i, line := range s.lines {
		if got := own[i][:len(line)+2]; string(got) != line+"##" || len(own[i]) != len(line) {
			t.Fatalf("%s: line %d became %q", s, i, got)
		}
	}
	if string(own[:len(own)+1][len(own)]) != "##" {
		t.Fatalf("%s: the room behind the lines was written into", s)
	}
}

// replies asks Mean, and of its answer what holds of every one.
func (s told) replies(t *testing.T) []impl.Reply {
	t.Helper()
	own := s.bytes()
	got, ok := impl.Mean(own, s.fuel)
	if !ok || len(got) != len(s.lines) {
		t.Fatalf("%s: %d replies, %v", s, len(got), ok)
	}
	s.wantUntouched(t, own)
	kept := slices.Clone(got)
	for i, r := range got {
		kept[i].Text = bytes.Clone(r.Text)
		s.wantSound(t, i, r)
	}
	for i, r := range got {
		if string(r.Text) != string(kept[i].Text) {
			t.Fatalf("%s: reply %d shares its text", s, i)
		}
		room := r.Text[:cap(r.Text)]
		for at := range room {
			room[at] = '#'
		}
	}
	s.wantUntouched(t, own)
	s.wantAgain(t, kept)
	return kept
}

func (s told) wantSound(t *testing.T, i int, r impl.Reply) {
	t.Helper()
	if r.Live != 0 || r.Cells != 0 || r.Work < 0 || r.Work > s.fuel || r.Made < 0 || r.Made > r.Work || r.Code < 0 || r.Code > impl.ErrFuel {
		t.Fatalf("%s: reply %d is %+v", s, i, r)
	}
	if r.Code != 0 && string(r.Text) != codeNames[r.Code] || r.Code == impl.ErrFuel && r.Work != s.fuel {
		t.Fatalf("%s: reply %d is %+v", s, i, r)
	}
}

// wantAgain holds the replies, and the arrays that names have behind the lines, against a second reckoning.
func (s told) wantAgain(t *testing.T, got []impl.Reply) {
	t.Helper()
	want, names := meanAgain(s.lines, s.fuel)
	for i := range want {
		if !isReply(got[i], want[i]) {
			t.Fatalf("%s: reply %d is %s; want %s", s, i, replyName(got[i]), replyName(want[i]))
		}
	}
	for _, name := range slices.Concat(lowNames, highNames) {
		want, isThere := names[name]
		a, ok := s.value(t, name)
		if ok != isThere || !isAlike(a, want) {
			t.Fatalf("%s: %s is %s, %v; want %s, %v", s, name, arrayName(a), ok, arrayName(want), isThere)
		}
	}
}

// lowNames and highNames are those that tests use.
var lowNames = []string{"x", "y", "z", "u"}
var highNames = []string{"F", "G", "H"}

func (s told) value(t *testing.T, name string) (impl.Array, bool) {
	t.Helper()
	own := s.bytes()
	got, ok := impl.Value(own, s.fuel, name)
	kept := impl.Array{Char: got.Char, Shape: slices.Clone(got.Shape), Data: slices.Clone(got.Data)}
	if ok && !arrayOkAgain(kept) || !ok && !isAlike(kept, impl.Array{}) {
		t.Fatalf("%s: %s is %s, %v", s, name, arrayName(kept), ok)
	}
	writeOver(got.Shape)
	if !slices.Equal(got.Data, kept.Data) {
		t.Fatalf("%s: Shape and Data of %s share memory", s, name)
	}
	writeOver(got.Data)
	s.wantUntouched(t, own)
	return kept, ok
}

func isReply(a impl.Reply, b impl.Reply) bool {
	return string(a.Text) == string(b.Text) && a.Code == b.Code && a.Work == b.Work && a.Made == b.Made && a.Live == b.Live && a.Cells == b.Cells
}

func replyName(r impl.Reply) string {
	return fmt.Sprintf("%q, code %d, work %d, made %d", r.Text, r.Code, r.Work, r.Made)
}

func (s told) last(t *testing.T) impl.Reply {
	t.Helper()
	return s.replies(t)[len(s.lines)-1]
}

// shows asks what the last line shows.
func (s told) shows(t *testing.T, want string) {
	t.Helper()
	if r := s.last(t); r.Code != 0 || string(r.Text) != want {
		t.Errorf("%s: %s; want %q", s, replyName(r), want)
	}
}

// fails asks for the code of the last line.
func (s told) fails(t *testing.T, code int) {
	t.Helper()
	if r := s.last(t); r.Code != code {
		t.Errorf("%s: %s; want the code %d", s, replyName(r), code)
	}
}

// has asks for the array of a name behind all lines.
func (s told) has(t *testing.T, name string, want impl.Array) {
	t.Helper()
	s.replies(t)
	if a, ok := s.value(t, name); !ok || !isAlike(a, want) {
		t.Errorf("%s: %s is %s, %v; want %s", s, name, arrayName(a), ok, arrayName(want))
	}
}

func (s told) hasNo(t *testing.T, name string) {
	t.Helper()
	s.replies(t)
	if a, ok := s.value(t, name); ok {
		t.Errorf("%s: %s is %s", s, name, arrayName(a))
	}
}

// worksOut asks for what one line counts, step by step, and for the code at its end; a step with an m is also made. It asks with each fuel up to what the line needs and one more.
func worksOut(t *testing.T, line string, steps string, code int) {
	t.Helper()
	var works []int
	var mades []int
	work, made := 0, 0
	for _, word := range strings.Fields(steps) {
		number, isMade := strings.CutSuffix(word, "m")
		n, err := strconv.Atoi(number)
		if err != nil {
			t.Fatal(err)
		}
		mades = append(mades, made)
		work += n
		works = append(works, work)
		if isMade {
			made += n
		}
	}
	for fuel := range work + 2 {
		want := impl.Reply{Code: code, Work: work, Made: made}
		if at := slices.IndexFunc(works, func(w int) bool { return w > fuel }); at >= 0 {
			want = impl.Reply{Code: impl.ErrFuel, Work: fuel, Made: mades[at]}
		}
		got := tell(line).with(fuel).last(t)
		if got.Code != want.Code || got.Work != want.Work || got.Made != want.Made {
			t.Errorf("%q with %d: %s; want %s", line, fuel, replyName(got), replyName(want))
		}
	}
}

// textOf is an expr that gives an array.
func textOf(a impl.Array) string {
	shape := strings.Join(append(leafWords(impl.Node{K: 1, Nums: a.Shape}), "⍴"), " ")
	if len(a.Shape) == 0 {
		shape = "⍬⍴"
	}
	data := impl.Node{K: 1, Nums: a.Data}
	if a.Char {
		data = impl.Node{K: 2, S: runesOf(a.Data)}
	}
	if len(a.Data) == 0 {
		data = impl.Node{K: 1, Nums: []int{0}}
		if a.Char {
			data = impl.Node{K: 2, S: " "}
		}
	}
	return "(" + shape + strings.Join(leafWords(data), " ") + ")"
}

func runesOf(list []int) string {
	text := ""
	for _, n := range list {
		text += string(rune(n))
	}
	return text
}
