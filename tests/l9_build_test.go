package tests

import (
	"bytes"
	"fmt"
	"maps"
	"slices"
	"strings"
	"testing"

	"loop.example/s02542/impl"
)

// ran are lines that are carried out with some fuel, and with cells enough for some budget.
type ran struct {
	told
	budget int
}

func run(lines ...string) ran { return ran{tell(lines...), impl.MaxBudget} }

// runAll are lines parted by a byte 10.
func runAll(lines string) ran { return run(strings.Split(lines, "\n")...) }

func (s ran) within(budget int) ran    { return ran{s.told, budget} }
func (s ran) with(fuel int) ran        { return ran{s.told.with(fuel), s.budget} }
func (s ran) then(lines ...string) ran { return ran{s.told.then(lines...), s.budget} }
func (s ran) upTo(count int) ran       { return ran{s.told.upTo(count), s.budget} }
func (s ran) without(line int) ran     { return ran{s.told.without(line), s.budget} }

func (s ran) String() string {
	return fmt.Sprintf("%s within %d", s.told, s.budget)
}

// replies asks Run, and of its answer what holds of every one.
func (s ran) replies(t *testing.T) []impl.Reply {
	t.Helper()
	kept, _ := s.watched(t)
	return kept
}

// watched gives the replies of Run and the second reckoning, which had the same.
func (s ran) watched(t *testing.T) ([]impl.Reply, *watcher) {
	t.Helper()
	own := s.bytes()
	got, ok := impl.Run(own, s.fuel, s.budget)
	if !ok || len(got) != len(s.lines) {
		t.Fatalf("%s: %d replies, %v", s, len(got), ok)
	}
	s.wantUntouched(t, own)
	kept := slices.Clone(got)
	for i, r := range got {
		kept[i].Text = bytes.Clone(r.Text)
	}
	for i, r := range got {
		if string(r.Text) != string(kept[i].Text) {
			t.Fatalf("%s: reply %d shares its text", s, i)
		}
		room := r.Text[:cap(r.Text)]
		for at := range room {
			room[at] = '#'
		}
	}
	s.wantUntouched(t, own)
	s.wantSound(t, kept)
	want, m := runAgain(s.lines, s.fuel, s.budget)
	for i := range want {
		if !isReply(kept[i], want[i]) {
			t.Fatalf("%s: reply %d is %s; want %s", s, i, ranName(kept[i]), ranName(want[i]))
		}
	}
	return kept, m
}

// wantSound asks of replies what can be told without reckoning: codes, bounds, and of promise 15 that Live is within budget, stays behind a code, and that ErrFull comes only when Live and Made are together more than the budget.
func (s ran) wantSound(t *testing.T, got []impl.Reply) {
	t.Helper()
	before := 0
	for i, r := range got {
		isSound := r.Work >= 0 && r.Work <= s.fuel && r.Made >= 0 && r.Made <= r.Work && r.Code >= 0 && r.Code <= impl.ErrFull
		isSound = isSound && r.Live >= 0 && r.Live <= s.budget && r.Cells >= 0 && r.Cells <= r.Made && r.Live <= before+r.Cells
		if r.Code != 0 {
			isSound = isSound && string(r.Text) == codeNames[r.Code] && r.Live == before
		}
		if r.Code == impl.ErrFull {
			isSound = isSound && before+r.Made > s.budget
		}
		if !isSound {
			t.Fatalf("%s: reply %d is %s, behind Live %d", s, i, ranName(r), before)
		}
		before = r.Live
	}
}

func ranName(r impl.Reply) string {
	return fmt.Sprintf("%s, live %d, cells %d", replyName(r), r.Live, r.Cells)
}

func (s ran) last(t *testing.T) impl.Reply {
	t.Helper()
	return s.replies(t)[len(s.lines)-1]
}

// shows asks what the last line shows.
func (s ran) shows(t *testing.T, want string) {
	t.Helper()
	if r := s.last(t); r.Code != 0 || string(r.Text) != want {
		t.Errorf("%s: %s; want %q", s, ranName(r), want)
	}
}

// fails asks for the code of the last line.
func (s ran) fails(t *testing.T, code int) {
	t.Helper()
	if r := s.last(t); r.Code != code {
		t.Errorf("%s: %s; want the code %d", s, ranName(r), code)
	}
}

// costs is a line with what is reckoned by hand: the cells of its new values, what is live behind it, and the most that is live at once when one of its new values has its cells (0 when it has none).
type costs struct {
	line              string
	cells, live, need int
}

// wantCosts asks of lines, each behind the same ones: their cells and what is live behind them, that they need no more cells than is said and no less, and that a line with ErrFull leaves all as it was.
func wantCosts(t *testing.T, before string, list ...costs) {
	t.Helper()
	for _, c := range list {
		s := runAll(before).then(c.line)
		if r := s.last(t); r.Code != 0 || r.Cells != c.cells || r.Live != c.live {
			t.Errorf("%s: %s; want live %d, cells %d", s, ranName(r), c.live, c.cells)
		}
		wantNeed(t, runAll(before), c.line, c.need)
	}
}

// wantNeed has a text lie beside, where the lines before need more cells for themselves.
func wantNeed(t *testing.T, before ran, line string, need int) {
	t.Helper()
	live, beside := before.last(t).Live, 0
	// Where nothing is taken all that there is may be live.
	enough := max(need, live)
	if short := ownNeed(before) - enough + 1; short > 0 {
		beside = max(short, 2)
		before = before.then("beside←'" + strings.Repeat("q", beside) + "'")
	}
	before.within(enough+beside).then(line).fails(t, 0)
	if need == 0 {
		return
	}
	s := before.within(enough+beside-1).then(line, names(before))
	got, at := s.replies(t), len(before.lines)
	want := before.then(names(before)).last(t)
	if got[at].Code != impl.ErrFull || got[at].Live != live+beside || string(got[at+1].Text) != string(want.Text) {
		t.Errorf("%s: %s and %s; want ErrFull, live %d, and %s", s, ranName(got[at]), ranName(got[at+1]), live+beside, ranName(want))
	}
}

// ownNeed is the least budget with which lines have no ErrFull.
func ownNeed(s ran) int {
	_, m := runAgain(s.lines, s.fuel, impl.MaxBudget)
	return m.need
}

// names is a line that shows all names that have an array behind lines, and takes no cells.
func names(s ran) string {
	_, m := runAgain(s.lines, s.fuel, s.budget)
	return strings.Join(append(slices.Sorted(maps.Keys(m.grounds[0].arrays)), "0"), "⋄")
}
