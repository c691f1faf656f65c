package tests

import (
	"math/rand/v2"
	"regexp"
	"strconv"
	"strings"
	"testing"

	"loop.example/s02542/impl"
)

// grammarText is the document's grammar, with each rule once for each way. chosen is the text of an expr whose tree is a selection,
// so that the grammar alone tells each token with which no line can go on.
const grammarText = `
line = 
line = stmts
stmts = stmt
stmts = stmt ⋄ stmts
stmt = HIGH ← { body }
stmt = LOW ← expr
stmt = LOW parts ← expr
stmt = LOW sfn ← expr
stmt = ( chosen ) ← expr
stmt = expr
body = 
body = items
items = item
items = item ⋄ items
item = stmt
item = expr : expr
expr = operand
expr = operand fn expr
expr = fn expr
operand = base
operand = operand parts
base = nums
base = TEXT
base = LOW
base = ⍺
base = ⍵
base = ⍬
base = ( expr )
nums = NUM
nums = NUM nums
parts = [ slots ]
slots = slot
slots = slot ; slots
slot = 
slot = expr
fn = sfn
fn = sfn /
fn = sfn ⌿
fn = sfn \
fn = sfn ⍀
fn = sfn . sfn
fn = ∘ . sfn
fn = prim
fn = { body }
fn = HIGH
fn = ∇
chosen = ( chosen )
chosen = target parts
chosen = turn1 reach
chosen = operand turn2 reach
target = LOW
target = ( reach )
target = target parts
reach = named
reach = chosen
named = LOW
named = ( named )
`

// grammar gives the ways of each rule.
func grammar() map[string][][]string {
	rules := map[string][][]string{}
	for _, row := range strings.Split(strings.TrimSpace(grammarText), "\n") {
		words := strings.Fields(row)
		rules[words[0]] = append(rules[words[0]], words[2:])
	}
	each := func(rule string, signs []string) {
		for _, s := range signs {
			rules[rule] = append(rules[rule], []string{s})
		}
	}
	each("sfn", primSigns[:impl.FnOr])
	each("prim", primSigns[impl.FnOr:])
	each("turn1", primSigns[impl.FnCat-1:impl.FnTurn])
	each("turn2", primSigns[impl.FnRev-1:impl.FnDrop])
	return rules
}

// step is a way of a rule that has been gone so far, from a token on.
type step struct {
	rule           string
	way, far, from int
}

// recognizer follows all ways at once, token by token, as Earley does.
type recognizer struct {
	rules map[string][][]string
	empty map[string]int
}

func newRecognizer() recognizer {
	return recognizer{rules: grammar(), empty: map[string]int{"line": 1, "body": 1, "slot": 1}}
}

func (r recognizer) next(s step) string {
	way := r.rules[s.rule][s.way]
	if s.far == len(way) {
		return ""
	}
	return way[s.far]
}

// spread adds all steps that stand at the same token as those of the last set.
func (r recognizer) spread(sets []map[step]int, begin []step) []map[step]int {
	set := map[step]int{}
	sets = append(sets, set)
	at := len(sets) - 1
	work := begin
	for len(work) > 0 {
		s := work[len(work)-1]
		work = work[:len(work)-1]
		if set[s] == 1 {
			continue
		}
		set[s] = 1
		word := r.next(s)
		if word == "" {
			for other := range sets[s.from] {
				if r.next(other) == s.rule {
					other.far++
					work = append(work, other)
				}
			}
			continue
		}
		for way := range r.rules[word] {
			work = append(work, step{word, way, 0, at})
		}
		if r.empty[word] == 1 {
			s.far++
			work = append(work, s)
		}
	}
	return sets
}

func classOf(token impl.Token) string {
	switch token.Kind {
	case impl.TokNum:
		return "NUM"
	case impl.TokText:
		return "TEXT"
	case impl.TokSign:
		return token.S
	}
	if token.S[0] >= 'a' {
		return "LOW"
	}
	return "HIGH"
}

// faultOf gives the code and the offset of a line, without its limits.
func (r recognizer) faultOf(line []byte) (int, int) {
	tokens, code, at := impl.Lex(line)
	if code != 0 {
		return code, at
	}
	sets := r.spread(nil, []step{{"line", 0, 0, 0}, {"line", 1, 0, 0}})
	for _, token := range tokens {
		var begin []step
		for s := range sets[len(sets)-1] {
			if r.next(s) == classOf(token) {
				s.far++
				begin = append(begin, s)
			}
		}
		if len(begin) == 0 {
			return impl.ErrSyntax, token.At
		}
		sets = r.spread(sets, begin)
	}
	for s := range sets[len(sets)-1] {
		if s.rule == "line" && s.from == 0 && r.next(s) == "" {
			return 0, 0
		}
	}
	return impl.ErrSyntax, len(line)
}

func (r recognizer) check(t *testing.T, line []byte) {
	t.Helper()
	tree, code, at := impl.Parse(line)
	wantCode, wantAt := r.faultOf(line)
	if code == impl.ErrLimit && wantCode == 0 {
		if len(tree.Nodes) != 0 || at != 0 {
			t.Fatalf("Parse(%q) = %+v, %d, %d", line, tree.Nodes, code, at)
		}
		return
	}
	if code != wantCode || at != wantAt || code != 0 && len(tree.Nodes) != 0 {
		t.Fatalf("Parse(%q) = %+v, %d, %d; want %d, %d", line, tree.Nodes, code, at, wantCode, wantAt)
	}
	if code == 0 {
		checkBack(t, tree)
	}
}

// checkBack holds promise 1 for a tree.
func checkBack(t *testing.T, tree impl.Tree) {
	t.Helper()
	before := copyTree(tree)
	if !impl.TreeOk(tree) || !validAgain(tree) {
		t.Fatalf("TreeOk(%+v) = %v", tree.Nodes, impl.TreeOk(tree))
	}
	first, ok := impl.Unparse(tree)
	if !ok || string(first) != textAgain(tree) {
		t.Fatalf("Unparse(%+v) = %q, %v; want %q", tree.Nodes, first, ok, textAgain(tree))
	}
	if !sameTree(tree, before) {
		t.Fatalf("%+v became %+v", before.Nodes, tree.Nodes)
	}
	back, code, at := impl.Parse(first)
	if len(first) > impl.MaxLine {
		if len(back.Nodes) != 0 || code != impl.ErrLimit || at != 0 {
			t.Fatalf("Parse of %d bytes = %d, %d", len(first), code, at)
		}
		return
	}
	if code != 0 || at != 0 || !sameTree(back, tree) {
		t.Fatalf("Parse(%q) = %+v, %d, %d; want %+v", first, back.Nodes, code, at, tree.Nodes)
	}
	second, ok := impl.Unparse(back)
	if !ok || string(second) != string(first) {
		t.Fatalf("%q was written again as %q, %v", first, second, ok)
	}
}

// writer writes a twig as words, one for each token; loose brackets everything that may be bracketed.
type writer struct {
	loose bool
	words []string
}

func (w *writer) add(words ...string) { w.words = append(w.words, words...) }

func (w *writer) bracketed(kid twig, needed bool) {
	if !needed && !w.loose {
		w.write(kid)
		return
	}
	w.add("(")
	w.write(kid)
	w.add(")")
}

// operand writes what stands in front of a function or parts.
func (w *writer) operand(kid twig) {
	w.bracketed(kid, kid.node.K == 9 || kid.node.K == 10)
}

func (w *writer) applied(f, b twig) {
	w.write(f)
	replicates := b.node.K == 9 && b.kids[0].node.K == 11 && (b.kids[0].node.N == impl.FnRep || b.kids[0].node.N == impl.FnRepF)
	w.bracketed(b, f.node.K == 11 && f.node.N <= impl.FnOr && replicates)
}

func (w *writer) series(kids []twig, between string) {
	for i, kid := range kids {
		if i > 0 {
			w.add(between)
		}
		if kid.node.K <= 10 && kid.node.K != 8 {
			w.bracketed(kid, false)
		} else {
			w.write(kid)
		}
	}
}

func (w *writer) write(of twig) {
	n, kids, last := of.node, of.kids, len(of.kids)-1
	switch n.K {
	case 7:
		w.operand(kids[0])
		w.add("[")
		w.series(kids[1:], ";")
		w.add("]")
	case 9:
		w.applied(kids[0], kids[1])
	case 10:
		w.operand(kids[0])
		w.applied(kids[1], kids[2])
	case 16:
		w.add("{")
		w.series(kids, "⋄")
		w.add("}")
	case 19, 20:
		w.add(n.S, "←")
		w.series(kids, "")
	case 21:
		w.add(n.S, "[")
		w.series(kids[:last], ";")
		w.add("]", "←")
		w.bracketed(kids[last], false)
	case 22:
		w.add(n.S, primSigns[n.N-1], "←")
		w.bracketed(kids[0], false)
	case 23:
		w.add("(")
		w.bracketed(kids[0], false)
		w.add(")", "←")
		w.bracketed(kids[1], false)
	case 24:
		w.series(kids, ":")
	case 25:
		w.series(kids, "⋄")
	default:
		w.add(leafWords(n)...)
	}
}

func leafWords(n impl.Node) []string {
	prim := func(n int) string { return primSigns[n-1] }
	switch n.K {
	case 1:
		var out []string
		for _, v := range n.Nums {
			out = append(out, strings.Replace(strconv.Itoa(v), "-", "¯", 1))
		}
		return out
	case 2:
		return []string{"'" + strings.Join(strings.Split(n.S, "'"), "''") + "'"}
	case 3, 17:
		return []string{n.S}
	case 4, 5, 6:
		return []string{"⍺⍵⍬"[3*(n.K-4) : 3*(n.K-3)]}
	case 11:
		return []string{prim(n.N)}
	case 12:
		return []string{prim(n.N), []string{"/", "⌿"}[n.M]}
	case 13:
		return []string{prim(n.N), []string{"\\", "⍀"}[n.M]}
	case 14:
		return []string{"∘", ".", prim(n.N)}
	case 15:
		return []string{prim(n.N), ".", prim(n.M)}
	case 18:
		return []string{"∇"}
	}
	return nil
}

func wordsOf(of twig, loose bool) []string {
	w := &writer{loose: loose}
	w.write(of)
	return w.words
}

var wordLike = regexp.MustCompile(`^¯?[0-9A-Za-z]`)

// textAgain is a second Unparse, written apart from the program's.
func textAgain(tree impl.Tree) string {
	root, _, _ := raise(tree, len(tree.Nodes)-1, 0)
	out := ""
	before := ""
	for _, word := range wordsOf(root, false) {
		if wordLike.MatchString(word) && wordLike.MatchString(before) {
			out += " "
		}
		out += word
		before = word
	}
	return out
}

// raise gives the twig that ends at a place, and the place in front of it.
func raise(tree impl.Tree, at, depth int) (twig, int, bool) {
	if at < 0 || depth > impl.MaxTall {
		return twig{}, at, false
	}
	n := tree.Nodes[at]
	w := twig{node: n, kids: make([]twig, len(n.Kids))}
	front := at - 1
	for k := len(n.Kids) - 1; k >= 0; k-- {
		if n.Kids[k] != front {
			return twig{}, front, false
		}
		kid, before, ok := raise(tree, front, depth+1)
		if !ok {
			return twig{}, front, false
		}
		w.kids[k] = kid
		front = before
	}
	return w, front, true
}

// kidPatterns tell the kids of each kind by a letter for each: e an expr, n no part, f a function, B one in braces, s another stmt, g a guard, l a line.
var kidPatterns = map[int]*regexp.Regexp{
	7: regexp.MustCompile(`^e[en]+$`), 9: regexp.MustCompile(`^[fB]e$`), 10: regexp.MustCompile(`^e[fB]e$`), 16: regexp.MustCompile(`^[esg]*$`),
	19: regexp.MustCompile(`^e$`), 20: regexp.MustCompile(`^B$`), 21: regexp.MustCompile(`^[en]+e$`), 22: regexp.MustCompile(`^e$`),
	23: regexp.MustCompile(`^ee$`), 24: regexp.MustCompile(`^ee$`), 25: regexp.MustCompile(`^[es]*$`),
}

var lowPattern = regexp.MustCompile(`^[a-z][A-Za-z0-9]{0,19}\z`)
var highPattern = regexp.MustCompile(`^[A-Z][A-Za-z0-9]{0,19}\z`)

const kindLetters = "?eeeeeeeneefffffBffsssssgl"

// validAgain is a second TreeOk, written apart from the program's.
func validAgain(tree impl.Tree) bool {
	if len(tree.Nodes) == 0 || len(tree.Nodes) > impl.MaxNodes {
		return false
	}
	root, front, ok := raise(tree, len(tree.Nodes)-1, 0)
	return ok && front == -1 && root.node.K == 25 && twigOk(root)
}

func twigOk(w twig) bool {
	n := w.node
	if n.K < 1 || n.K > 25 {
		return false
	}
	letters := ""
	for _, kid := range w.kids {
		if !twigOk(kid) {
			return false
		}
		letters += kindLetters[kid.node.K : kid.node.K+1]
	}
	if pattern := kidPatterns[n.K]; pattern == nil && letters != "" || pattern != nil && !pattern.MatchString(letters) {
		return false
	}
	if n.K == 23 && (w.kids[0].node.K == 3 || !reaches(w.kids[0])) {
		return false
	}
	return ownFieldsOk(n)
}

func ownFieldsOk(n impl.Node) bool {
	for _, v := range n.Nums {
		if v > impl.MaxInt || v < -impl.MaxInt {
			return false
		}
	}
	if (n.K == 1) != (len(n.Nums) > 0) {
		return false
	}
	switch n.K {
	case 2:
		if !hasText(impl.Token{Kind: impl.TokText, S: n.S}) {
			return false
		}
	case 3, 19, 21, 22:
		if !lowPattern.MatchString(n.S) {
			return false
		}
	case 17, 20:
		if !highPattern.MatchString(n.S) {
			return false
		}
	default:
		if n.S != "" {
			return false
		}
	}
	bounds := map[int][4]int{11: {1, 33, 0, 0}, 12: {1, 16, 0, 1}, 13: {1, 16, 0, 1}, 14: {1, 16, 0, 0}, 15: {1, 16, 1, 16}, 22: {1, 16, 0, 0}}[n.K]
	return bounds[0] <= n.N && n.N <= bounds[1] && bounds[2] <= n.M && n.M <= bounds[3]
}

// reaches says whether a twig is a name, or a selection.
func reaches(w twig) bool {
	prim := func(i, least, greatest int) bool {
		f := w.kids[i].node
		return f.K == 11 && f.N >= least && f.N <= greatest
	}
	switch w.node.K {
	case 3:
		return true
	case 7:
		return reaches(w.kids[0])
	case 9:
		return prim(0, impl.FnCat, impl.FnTurn) && reaches(w.kids[1])
	case 10:
		return prim(1, impl.FnRev, impl.FnDrop) && reaches(w.kids[2])
	}
	return false
}

func TestParseOfUnparseIsTheTree(t *testing.T) {
	g := grower{rand.New(rand.NewPCG(4, 2542))}
	kinds := map[int]int{}
	for range 40000 {
		w := g.line()
		tree := flat(w)
		if len(tree.Nodes) > impl.MaxNodes {
			continue
		}
		for _, n := range tree.Nodes {
			kinds[n.K]++
		}
		checkBack(t, tree)
		loose := strings.Join(wordsOf(w, true), pick(g, " ", "\t", "  ")) + pick(g, "", " ", "⍝ \xff")
		got, code, at := impl.Parse([]byte(loose))
		if len(loose) <= impl.MaxLine && (code != 0 || at != 0 || !sameTree(got, tree)) {
			t.Fatalf("Parse(%q) = %+v, %d, %d; want %+v", loose, got.Nodes, code, at, tree.Nodes)
		}
	}
	for kind := 1; kind <= 25; kind++ {
		if kinds[kind] < 1000 {
			t.Errorf("only %d nodes of kind %d", kinds[kind], kind)
		}
	}
}

// lineWords are what lines are thrown together from.
func lineWords() []string {
	words := strings.Fields("1 ¯2 'a' x y F G ⍺ ⍵ ⍬ ( ) [ ] ; { } ⋄ : ← ← ∇ ∘ . / ⌿ \\ ⍀ + × ⌽ ↑ , ∘.+ +.× x← F←{ x[1] (⌽x) ⍴")
	return append(words, primSigns...)
}

func TestParseGoesOnAsTheGrammarDoes(t *testing.T) {
	g := grower{rand.New(rand.NewPCG(5, 2542))}
	r := newRecognizer()
	words := lineWords()
	for range 25000 {
		var line []string
		for range g.IntN(10) {
			line = append(line, pick(g, words...))
		}
		r.check(t, []byte(strings.Join(line, " ")))
	}
}

// TestParseOfLinesNearlyRight changes one token of a line that is right, so that faults come up far behind the beginning.
func TestParseOfLinesNearlyRight(t *testing.T) {
	g := grower{rand.New(rand.NewPCG(6, 2542))}
	r := newRecognizer()
	words := lineWords()
	for range 4000 {
		line := wordsOf(g.line(), g.IntN(2) == 0)
		if len(line) > 60 {
			line = line[:60]
		}
		at := g.IntN(len(line) + 1)
		changed := append([]string{}, line[:at]...)
		switch g.IntN(3) {
		case 0:
			changed = append(append(changed, pick(g, words...)), line[at:]...)
		case 1:
			changed = append(changed, line[min(at+1, len(line)):]...)
		case 2:
			changed = append(append(changed, pick(g, words...)), line[min(at+1, len(line)):]...)
		}
		r.check(t, []byte(strings.Join(changed, " ")))
	}
}

// change makes one change to a tree, as like as not one that makes it wrong.
func (g grower) change(tree impl.Tree) {
	nodes := tree.Nodes
	n := &nodes[g.IntN(len(nodes))]
	small := g.IntN(36) - 2
	switch g.IntN(8) {
	case 0:
		n.K = g.IntN(28) - 1
	case 1:
		n.N = small
	case 2:
		n.M = small
	case 3:
		n.S = pick(g, "", "x", "F", "x y", "1", "\n", "a'b", "abcdefghijklmnopqrstu")
	case 4:
		n.Nums = pick(g, nil, []int{1}, []int{impl.MaxInt + 1}, []int{-impl.MaxInt})
	case 5:
		if len(n.Kids) > 0 {
			n.Kids[g.IntN(len(n.Kids))] += pick(g, -2, -1, 1, 2)
		}
	case 6:
		if len(n.Kids) > 0 {
			at := g.IntN(len(n.Kids))
			n.Kids = append(n.Kids[:at], n.Kids[at+1:]...)
		}
	case 7:
		m := &nodes[g.IntN(len(nodes))]
		*m, *n = *n, *m
	}
}

func TestTreeOkOfChangedTrees(t *testing.T) {
	g := grower{rand.New(rand.NewPCG(7, 2542))}
	valid, wrong := 0, 0
	for range 60000 {
		tree := flat(g.line())
		g.change(tree)
		before := copyTree(tree)
		got, want := impl.TreeOk(tree), validAgain(tree)
		if got != want || !sameTree(tree, before) {
			t.Fatalf("TreeOk(%+v) = %v; want %v of %+v", tree.Nodes, got, want, before.Nodes)
		}
		if got {
			valid++
			checkBack(t, tree)
			continue
		}
		wrong++
		if text, ok := impl.Unparse(tree); ok || len(text) != 0 {
			t.Fatalf("Unparse(%+v) = %q, %v", tree.Nodes, text, ok)
		}
	}
	if valid < 1000 || wrong < 1000 {
		t.Errorf("%d valid trees, %d others", valid, wrong)
	}
}

func TestTreeOkOfAnyTree(t *testing.T) {
	g := grower{rand.New(rand.NewPCG(8, 2542))}
	for range 100000 {
		var tree impl.Tree
		for i := range g.IntN(6) {
			n := impl.Node{K: g.IntN(28) - 1, N: g.IntN(4) * g.IntN(20), M: g.IntN(2) * g.IntN(3)}
			if g.IntN(3) == 0 {
				n.S = pick(g, "x", "F", "\n")
			}
			if g.IntN(4) == 0 {
				n.Nums = []int{g.IntN(3)}
			}
			for range g.IntN(4) {
				n.Kids = append(n.Kids, i-g.IntN(4))
			}
			tree.Nodes = append(tree.Nodes, n)
		}
		if got, want := impl.TreeOk(tree), validAgain(tree); got != want {
			t.Fatalf("TreeOk(%+v) = %v; want %v", tree.Nodes, got, want)
		}
		_, ok := impl.Unparse(tree)
		if ok != validAgain(tree) {
			t.Fatalf("Unparse(%+v) is %v", tree.Nodes, ok)
		}
	}
}

func FuzzParse(f *testing.F) {
	for _, line := range []string{"", "x←2+y", "F←{⍵=0:1⋄∇⍵-1}", "((⍉x)[1;])←0", "x[1]←2⋄y×←3", "x+.×⍉y∘.=+(/z)", "(x+1)←2", "{x:y⋄}1", "'it''s'[", "x⋄"} {
		f.Add([]byte(line))
	}
	r := newRecognizer()
	f.Fuzz(func(t *testing.T, line []byte) {
		r.check(t, line)
	})
}
