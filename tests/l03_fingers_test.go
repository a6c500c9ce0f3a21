package tests

import (
	"fmt"
	"math"
	"math/bits"
	"math/rand"
	"slices"
	"strings"
	"testing"

	"loop.example/g00677/impl"
)

// The model follows the document sentence by sentence, on lists that are never changed, with every mirror image written out.

func modelNode(nodes ...string) string {
	return "(" + strings.Join(nodes, "") + ")"
}

func modelPushFront(levels []impl.Level, s string) []impl.Level {
	if len(levels) == 0 {
		return []impl.Level{{Pre: []string{s}}}
	}
	top, below := levels[0], levels[1:]
	switch {
	case len(top.Suf) == 0:
		top = impl.Level{Pre: []string{s}, Suf: top.Pre}
	case len(top.Pre) < 4:
		top.Pre = slices.Concat([]string{s}, top.Pre)
	default:
		below = modelPushFront(below, modelNode(top.Pre[1:]...))
		top.Pre = []string{s, top.Pre[0]}
	}
	return slices.Concat([]impl.Level{top}, below)
}

func modelPushBack(levels []impl.Level, s string) []impl.Level {
	if len(levels) == 0 {
		return []impl.Level{{Pre: []string{s}}}
	}
	top, below := levels[0], levels[1:]
	switch {
	case len(top.Suf) == 0:
		top.Suf = []string{s}
	case len(top.Suf) < 4:
		top.Suf = slices.Concat(top.Suf, []string{s})
	default:
		below = modelPushBack(below, modelNode(top.Suf[:3]...))
		top.Suf = []string{top.Suf[3], s}
	}
	return slices.Concat([]impl.Level{top}, below)
}

func modelSplit(nodes []string) impl.Level {
	switch len(nodes) {
	case 1:
		return impl.Level{Pre: nodes}
	case 2:
		return impl.Level{Pre: nodes[:1], Suf: nodes[1:]}
	}
	return impl.Level{Pre: nodes[:2], Suf: nodes[2:]}
}

// modelChildren tries all ways to cut the node into two or three nodes of the depth below.
func modelChildren(s string, depth int) []string {
	inside := s[1 : len(s)-1]
	for i := range len(inside) {
		if !modelIsNode(inside[:i], depth-1) {
			continue
		}
		if modelIsNode(inside[i:], depth-1) {
			return []string{inside[:i], inside[i:]}
		}
		for k := i; k < len(inside); k++ {
			if modelIsNode(inside[i:k], depth-1) && modelIsNode(inside[k:], depth-1) {
				return []string{inside[:i], inside[i:k], inside[k:]}
			}
		}
	}
	return nil
}

func modelPopFront(levels []impl.Level, depth int) (string, []impl.Level) {
	top, below := levels[0], levels[1:]
	node := top.Pre[0]
	switch {
	case len(top.Suf) == 0:
		return node, nil
	case len(top.Pre) > 1:
		top.Pre = top.Pre[1:]
	case len(below) > 0:
		var s string
		s, below = modelPopFront(below, depth+1)
		top.Pre = modelChildren(s, depth+1)
	default:
		top = modelSplit(top.Suf)
	}
	return node, slices.Concat([]impl.Level{top}, below)
}

func modelPopBack(levels []impl.Level, depth int) (string, []impl.Level) {
	top, below := levels[0], levels[1:]
	if len(top.Suf) == 0 {
		return top.Pre[0], nil
	}
	node := top.Suf[len(top.Suf)-1]
	switch {
	case len(top.Suf) > 1:
		top.Suf = top.Suf[:len(top.Suf)-1]
	case len(below) > 0:
		var s string
		s, below = modelPopBack(below, depth+1)
		top.Suf = modelChildren(s, depth+1)
	default:
		top = modelSplit(top.Pre)
	}
	return node, slices.Concat([]impl.Level{top}, below)
}

// modelGroups lists how many nodes make one, by the number of nodes; 4 + 4 + 4 is the greatest.
func modelGroups(list []string) []string {
	sizes := [][]int{2: {2}, 3: {3}, 4: {2, 2}, 5: {3, 2}, 6: {3, 3}, 7: {3, 2, 2}, 8: {3, 3, 2}, 9: {3, 3, 3}, 10: {3, 3, 2, 2}, 11: {3, 3, 3, 2}, 12: {3, 3, 3, 3}}
	var nodes []string
	for _, n := range sizes[len(list)] {
		nodes = append(nodes, modelNode(list[:n]...))
		list = list[n:]
	}
	return nodes
}

func modelConcat(a []impl.Level, list []string, b []impl.Level) []impl.Level {
	pushAllFront := func(nodes []string) []impl.Level {
		for _, s := range slices.Backward(nodes) {
			b = modelPushFront(b, s)
		}
		return b
	}
	pushAllBack := func(nodes []string) []impl.Level {
		for _, s := range nodes {
			a = modelPushBack(a, s)
		}
		return a
	}
	switch {
	case len(a) == 0:
		return pushAllFront(list)
	case len(b) == 0:
		return pushAllBack(list)
	case len(a[0].Suf) == 0:
		return pushAllFront(slices.Concat(a[0].Pre, list))
	case len(b[0].Suf) == 0:
		return pushAllBack(slices.Concat(list, b[0].Pre))
	}
	middle := modelGroups(slices.Concat(a[0].Suf, list, b[0].Pre))
	top := impl.Level{Pre: a[0].Pre, Suf: b[0].Suf}
	return slices.Concat([]impl.Level{top}, modelConcat(a[1:], middle, b[1:]))
}

func modelText(levels []impl.Level) string {
	text := ""
	for _, l := range levels {
		text += "[" + strings.Join(l.Pre, " ") + "|" + strings.Join(l.Suf, " ") + "]"
	}
	return text
}

// modelIsNode closes the innermost nodes first, all of one depth at a time.
func modelIsNode(s string, depth int) bool {
	if depth < 0 || depth > 20 || strings.Trim(s, "x()") != "" || strings.Count(s, "x") > 200 {
		return false
	}
	for range depth {
		s = strings.ReplaceAll(strings.ReplaceAll(s, "(xxx)", "y"), "(xx)", "y")
		if strings.Contains(s, "x") {
			return false
		}
		s = strings.ReplaceAll(s, "y", "x")
	}
	return s == "x"
}

// nodesOfDepth lists all nodes of the depth: 1, 2, 12, 1872.
func nodesOfDepth(depth int) []string {
	if depth == 0 {
		return []string{"x"}
	}
	below := nodesOfDepth(depth - 1)
	var nodes []string
	for _, a := range below {
		for _, b := range below {
			nodes = append(nodes, modelNode(a, b))
			for _, c := range below {
				nodes = append(nodes, modelNode(a, b, c))
			}
		}
	}
	return nodes
}

// nodeWithLeaves is a node of the depth that has that many leaves, if 2 to 3 leaves a level allow it.
func nodeWithLeaves(depth int, leaves int) string {
	if depth == 0 {
		return "x"
	}
	children := 2
	if leaves > 2*pow(3, depth-1) {
		children = 3
	}
	s := "("
	for left := children; left > 0; left-- {
		n := leaves / left
		s += nodeWithLeaves(depth-1, n)
		leaves -= n
	}
	return s + ")"
}

func pow(base int, n int) int {
	p := 1
	for range n {
		p *= base
	}
	return p
}

func randomNode(random *rand.Rand, depth int) string {
	if depth == 0 {
		return "x"
	}
	s := "("
	for range 2 + random.Intn(2) {
		s += randomNode(random, depth-1)
	}
	return s + ")"
}

// randomFing is any valid tree, also one that no sequence of pushes makes.
func randomFing(random *rand.Rand) impl.Fing {
	for {
		var f impl.Fing
		height := random.Intn(6)
		for depth := range height {
			var l impl.Level
			single := depth == height-1 && random.Intn(2) == 0
			if single {
				l.Pre = []string{randomNode(random, depth)}
			} else {
				for range 1 + random.Intn(4) {
					l.Pre = append(l.Pre, randomNode(random, depth))
				}
				for range 1 + random.Intn(4) {
					l.Suf = append(l.Suf, randomNode(random, depth))
				}
			}
			f.Levels = append(f.Levels, l)
		}
		if strings.Count(modelText(f.Levels), "x") <= 200 {
			return f
		}
	}
}

// fingOf reads the text of a tree, valid or not.
func fingOf(text string) impl.Fing {
	var f impl.Fing
	for _, part := range strings.SplitAfter(text, "]") {
		if part == "" {
			continue
		}
		pre, suf, _ := strings.Cut(strings.Trim(part, "[]"), "|")
		f.Levels = append(f.Levels, impl.Level{Pre: strings.Fields(pre), Suf: strings.Fields(suf)})
	}
	return f
}

func fingsOf(texts ...string) []impl.Fing {
	var list []impl.Fing
	for _, s := range texts {
		list = append(list, fingOf(s))
	}
	return list
}

func leavesOf(f impl.Fing) int {
	return strings.Count(modelText(f.Levels), "x")
}

// xs is n leaves, with blanks between them.
func xs(n int) string {
	return strings.TrimSpace(strings.Repeat("x ", n))
}

// checkFing asserts that f is a valid tree with that text and promise 4's number of levels.
func checkFing(t *testing.T, what string, f impl.Fing, want string) {
	t.Helper()
	if got := modelText(f.Levels); got != want {
		t.Fatalf("%s is %s, want %s", what, got, want)
	}
	leaves := strings.Count(want, "x")
	if !impl.FingOk(f) {
		t.Fatalf("%s is not valid: %s", what, want)
	}
	if got := impl.FingLeaves(f); got != leaves {
		t.Fatalf("%s has %d leaves: %s", what, got, want)
	}
	if got := impl.FingText(f); got != want {
		t.Fatalf("%s has the text %q, want %q", what, got, want)
	}
	if len(f.Levels) > bits.Len(uint(leaves)) {
		t.Fatalf("%s has %d levels: %s", what, len(f.Levels), want)
	}
}

// checkNoFing asserts that a call found nothing to return.
func checkNoFing(t *testing.T, what string, f impl.Fing, ok bool) {
	t.Helper()
	if ok || len(f.Levels) != 0 {
		t.Fatalf("%s returned %v and %s", what, ok, modelText(f.Levels))
	}
}

// checkEnds pushes and pops at both ends of a valid tree and compares with the model and with promise 4.
func checkEnds(t *testing.T, f impl.Fing) {
	t.Helper()
	text := modelText(f.Levels)
	checkFing(t, "the tree", f, text)
	checkPush(t, "FingCons", f, impl.FingCons, modelPushFront, impl.FingUncons, impl.FingUnsnoc)
	checkPush(t, "FingSnoc", f, impl.FingSnoc, modelPushBack, impl.FingUnsnoc, impl.FingUncons)
	checkPop(t, "FingUncons", f, impl.FingUncons, modelPopFront)
	checkPop(t, "FingUnsnoc", f, impl.FingUnsnoc, modelPopBack)
	if got := modelText(f.Levels); got != text {
		t.Fatalf("the tree %s became %s", text, got)
	}
}

func checkPush(t *testing.T, name string, f impl.Fing, push func(impl.Fing) (impl.Fing, bool), model func([]impl.Level, string) []impl.Level, pops ...func(impl.Fing) (impl.Fing, bool)) {
	t.Helper()
	what := name + " of " + modelText(f.Levels)
	g, ok := push(f)
	if leavesOf(f) == 200 {
		checkNoFing(t, what, g, ok)
		return
	}
	if !ok {
		t.Fatalf("%s is refused", what)
	}
	checkFing(t, what, g, modelText(model(f.Levels, "x")))
	for _, pop := range pops {
		h, ok := pop(g)
		if !ok || impl.FingLeaves(h) != leavesOf(f) {
			t.Fatalf("%s and popped again is %v, %s", what, ok, modelText(h.Levels))
		}
	}
}

func checkPop(t *testing.T, name string, f impl.Fing, pop func(impl.Fing) (impl.Fing, bool), model func([]impl.Level, int) (string, []impl.Level)) {
	t.Helper()
	what := name + " of " + modelText(f.Levels)
	g, ok := pop(f)
	if leavesOf(f) == 0 {
		checkNoFing(t, what, g, ok)
		return
	}
	if !ok {
		t.Fatalf("%s is refused", what)
	}
	_, want := model(f.Levels, 0)
	checkFing(t, what, g, modelText(want))
}

func checkConcat(t *testing.T, a impl.Fing, b impl.Fing) {
	t.Helper()
	textA, textB := modelText(a.Levels), modelText(b.Levels)
	what := fmt.Sprintf("the concatenation of %q and %q", textA, textB)
	c, ok := impl.FingConcat(a, b)
	if modelText(a.Levels) != textA || modelText(b.Levels) != textB {
		t.Fatalf("%s changed them to %q and %q", what, modelText(a.Levels), modelText(b.Levels))
	}
	if leavesOf(a)+leavesOf(b) > 200 {
		checkNoFing(t, what, c, ok)
		return
	}
	if !ok {
		t.Fatalf("%s is refused", what)
	}
	checkFing(t, what, c, modelText(modelConcat(a.Levels, nil, b.Levels)))
	if impl.FingLeaves(c) != impl.FingLeaves(a)+impl.FingLeaves(b) {
		t.Fatalf("%s has %d leaves", what, impl.FingLeaves(c))
	}
}

// checkInvalidFing asserts what every function returns for a tree that is not valid.
func checkInvalidFing(t *testing.T, f impl.Fing) {
	t.Helper()
	text := modelText(f.Levels)
	if impl.FingOk(f) {
		t.Errorf("%s is valid", text)
	}
	if got := impl.FingLeaves(f); got != -1 {
		t.Errorf("%s has %d leaves", text, got)
	}
	if got := impl.FingText(f); got != "" {
		t.Errorf("%s has the text %q", text, got)
	}
	calls := map[string]func() (impl.Fing, bool){
		"FingCons":         func() (impl.Fing, bool) { return impl.FingCons(f) },
		"FingSnoc":         func() (impl.Fing, bool) { return impl.FingSnoc(f) },
		"FingUncons":       func() (impl.Fing, bool) { return impl.FingUncons(f) },
		"FingUnsnoc":       func() (impl.Fing, bool) { return impl.FingUnsnoc(f) },
		"FingConcat":       func() (impl.Fing, bool) { return impl.FingConcat(f, f) },
		"FingConcat first": func() (impl.Fing, bool) { return impl.FingConcat(f, fingOf("[x|x]")) },
		"FingConcat last":  func() (impl.Fing, bool) { return impl.FingConcat(fingOf("[x|x]"), f) },
		"FingConcat alone": func() (impl.Fing, bool) { return impl.FingConcat(f, impl.Fing{}) },
		"FingConcat after": func() (impl.Fing, bool) { return impl.FingConcat(impl.Fing{}, f) },
	}
	for name, call := range calls {
		g, ok := call()
		checkNoFing(t, name+" of "+text, g, ok)
	}
	if got := modelText(f.Levels); got != text {
		t.Errorf("%s became %s", text, got)
	}
}

func checkShape(t *testing.T, s string, depth int) {
	t.Helper()
	if got, want := impl.ShapeOk(s, depth), modelIsNode(s, depth); got != want {
		t.Fatalf("ShapeOk(%q, %d) = %v", s, depth, got)
	}
}

func TestFingerExamples(t *testing.T) {
	if impl.MaxLeaves != 200 {
		t.Fatal("MaxLeaves", impl.MaxLeaves)
	}
	if !impl.ShapeOk("((xx)(xxx))", 2) || impl.ShapeOk("(x)", 1) {
		t.Error("ShapeOk")
	}
	six := impl.FingNew(6)
	checkFing(t, "FingNew(6)", six, "[x|x x][(xxx)|]")
	f, ok := impl.FingCons(six)
	checkFing(t, "FingCons", f, "[x x|x x][(xxx)|]")
	g, ok2 := impl.FingUncons(six)
	checkFing(t, "FingUncons", g, "[x x x|x x]")
	h, ok3 := impl.FingConcat(impl.FingNew(3), impl.FingNew(2))
	checkFing(t, "FingConcat", h, "[x|x][(xxx)|]")
	if !ok || !ok2 || !ok3 {
		t.Error("refused", ok, ok2, ok3)
	}
}

func TestNodesOfEveryDepth(t *testing.T) {
	for depth, count := range []int{1, 2, 12, 1872} {
		nodes := nodesOfDepth(depth)
		if len(nodes) != count {
			t.Fatalf("%d nodes of depth %d", len(nodes), depth)
		}
		for _, s := range nodes {
			for other := -3; other < 12; other++ {
				if got := impl.ShapeOk(s, other); got != (other == depth) {
					t.Fatalf("ShapeOk(%q, %d) = %v", s, other, got)
				}
			}
		}
	}
}

func TestNodesWithTheMostLeaves(t *testing.T) {
	for depth := range 10 {
		least, most := pow(2, depth), pow(3, depth)
		for _, leaves := range []int{least, least + 1, 127, 128, 129, 198, 199, 200, 201, 202, 243, 256, most - 1, most} {
			if leaves < least || leaves > most || leaves > 3000 {
				continue
			}
			s := nodeWithLeaves(depth, leaves)
			if strings.Count(s, "x") != leaves {
				t.Fatalf("the node %s does not have %d leaves", s, leaves)
			}
			if got := impl.ShapeOk(s, depth); got != (leaves <= 200) {
				t.Errorf("a node of depth %d with %d leaves is %v", depth, leaves, got)
			}
			for _, other := range []int{math.MinInt, -1, depth - 1, depth + 1, math.MaxInt} {
				if impl.ShapeOk(s, other) {
					t.Errorf("a node of depth %d is one of depth %d", depth, other)
				}
			}
		}
	}
}

func TestStringsThatAreNoNode(t *testing.T) {
	strange := []string{
		"", " ", "y", "X", "x ", " x", "xx", "xxx", "x\x00", "\u0445", "x\xff",
		"()", "(", ")", ")(", "(x", "x)", "(x)", "(x)x", "x(x)", "(xx", "xx)", "(xxx", "xxx)", "((xx)", "(xx))", "(xxxx)", "(xxxxx)",
		"(x x)", "( xx)", "(xx )", " (xx)", "(xx) ", "(xX)", "(x,x)", "[xx]", "(x(xx))", "((xx)x)", "((xx))", "(()())", "(()xx)",
		"(xx)x", "x(xx)", "(xx)(xx)", "(xx)(xxx)", "(xx)()", "(xx)(", "(xx))(", "((xx)(xx)", "(xx)(xx))", "((xx)(xx)(xx)(xx))",
		"((xx)(x))", "((x)(xx))", "((xx)(xxxx))", "((xx)(xx)x)", "(x(xx)(xx))", "((xx)(xx)())", "((xx) (xx))", "((xx)(xx))x", "((xx)(xx))(xx)",
		"(((xx)(xx))(xx))", "((xx)((xx)(xx)))", "(((xx)(xx)))", "))))", "((((", "(((((xx", "xx)))))",
	}
	for _, s := range strange {
		for depth := -2; depth < 10; depth++ {
			if impl.ShapeOk(s, depth) {
				t.Errorf("%q is a node of depth %d", s, depth)
			}
		}
	}
	for _, depth := range []int{math.MinInt, math.MinInt + 1, -200, -2, -1, 1, 2, 8, 63, 64, 65, 200, math.MaxInt - 1, math.MaxInt} {
		if impl.ShapeOk("x", depth) {
			t.Errorf("a leaf is a node of depth %d", depth)
		}
	}
}

func TestShortStringsAsNodes(t *testing.T) {
	list := []string{""}
	for range 8 {
		var longer []string
		for _, s := range list {
			for depth := -1; depth < 4; depth++ {
				checkShape(t, s, depth)
			}
			longer = append(longer, s+"x", s+"(", s+")")
		}
		list = longer
	}
}

func TestNodesWithOneChange(t *testing.T) {
	random := rand.New(rand.NewSource(7))
	for range 3000 {
		depth := random.Intn(6)
		s := randomNode(random, depth)
		at := random.Intn(len(s))
		extra := string("x() y"[random.Intn(5)])
		for _, changed := range []string{s, s[:at] + s[at+1:], s[:at] + extra + s[at:], s[:at] + extra + s[at+1:], s + extra, extra + s, s[:at], s[at:], s + s, s[:at] + s + s[at:]} {
			for _, d := range []int{depth - 1, depth, depth + 1} {
				checkShape(t, changed, d)
			}
		}
	}
}

func TestLongStringsAreNoNodes(t *testing.T) {
	// As many calls within each other would exhaust the stack.
	const n = 1 << 24
	for _, s := range []string{strings.Repeat("(", n), strings.Repeat(")", n), strings.Repeat("x", n), strings.Repeat("(xx)", n/4), strings.Repeat("(", n/2) + "xx" + strings.Repeat(")", n/2)} {
		for _, depth := range []int{math.MinInt, -n, -1, 0, 1, 2, 7, 8, 100, n / 2, n, 2 * n, math.MaxInt} {
			if impl.ShapeOk(s, depth) {
				t.Errorf("a string of %d bytes is a node of depth %d", len(s), depth)
			}
		}
	}
	tall := impl.Fing{Levels: make([]impl.Level, 1<<16)}
	for i := range tall.Levels {
		tall.Levels[i] = impl.Level{Pre: []string{"x"}, Suf: []string{"x"}}
	}
	if impl.FingOk(tall) || impl.FingLeaves(tall) != -1 {
		t.Error("a tree of 65536 levels is valid")
	}
}

func TestNewTrees(t *testing.T) {
	var levels []impl.Level
	for n := range 201 {
		checkFing(t, fmt.Sprintf("FingNew(%d)", n), impl.FingNew(n), modelText(levels))
		if got := impl.FingLeaves(impl.FingNew(n)); got != n {
			t.Fatalf("FingNew(%d) has %d leaves", n, got)
		}
		levels = modelPushBack(levels, "x")
	}
	for n, want := range []string{"", "[x|]", "[x|x]", "[x|x x]", "[x|x x x]", "[x|x x x x]", "[x|x x][(xxx)|]", "[x|x x x][(xxx)|]", "[x|x x x x][(xxx)|]", "[x|x x][(xxx)|(xxx)]"} {
		checkFing(t, fmt.Sprintf("FingNew(%d)", n), impl.FingNew(n), want)
	}
	for _, n := range []int{math.MinInt, -200, -1, 201, 202, 400, 1 << 32, math.MaxInt} {
		if f := impl.FingNew(n); len(f.Levels) != 0 {
			t.Errorf("FingNew(%d) is %s", n, modelText(f.Levels))
		}
	}
}

func TestTheEmptyTree(t *testing.T) {
	for _, f := range []impl.Fing{{}, {Levels: []impl.Level{}}, {Levels: []impl.Level{{Pre: []string{"x"}}}[:0]}} {
		checkEnds(t, f)
		checkFing(t, "the empty tree", f, "")
		checkConcat(t, f, f)
	}
	for _, push := range []func(impl.Fing) (impl.Fing, bool){impl.FingCons, impl.FingSnoc} {
		one, ok := push(impl.Fing{})
		checkFing(t, "a leaf", one, "[x|]")
		empty, ok2 := impl.FingUncons(one)
		checkFing(t, "the rest", empty, "")
		empty, ok3 := impl.FingUnsnoc(one)
		checkFing(t, "the rest", empty, "")
		if !ok || !ok2 || !ok3 {
			t.Error("refused", ok, ok2, ok3)
		}
	}
}

// endings is what each of the four functions makes of a tree.
type endings struct{ text, cons, snoc, uncons, unsnoc string }

func checkEndings(t *testing.T, list []endings) {
	t.Helper()
	for _, x := range list {
		f := fingOf(x.text)
		checkEnds(t, f)
		for i, call := range []func(impl.Fing) (impl.Fing, bool){impl.FingCons, impl.FingSnoc, impl.FingUncons, impl.FingUnsnoc} {
			want := []string{x.cons, x.snoc, x.uncons, x.unsnoc}[i]
			g, ok := call(f)
			if got := modelText(g.Levels); !ok || got != want {
				t.Errorf("function %d of %s returned %v and %s, want %s", i, x.text, ok, got, want)
			}
		}
	}
}

func TestEndsOfOneLevel(t *testing.T) {
	checkEndings(t, []endings{
		{"[x|]", "[x|x]", "[x|x]", "", ""},
		{"[x|x]", "[x x|x]", "[x|x x]", "[x|]", "[x|]"},
		{"[x|x x]", "[x x|x x]", "[x|x x x]", "[x|x]", "[x|x]"},
		{"[x|x x x]", "[x x|x x x]", "[x|x x x x]", "[x x|x]", "[x|x x]"},
		{"[x|x x x x]", "[x x|x x x x]", "[x|x x][(xxx)|]", "[x x|x x]", "[x|x x x]"},
		{"[x x|x]", "[x x x|x]", "[x x|x x]", "[x|x]", "[x|x]"},
		{"[x x x|x]", "[x x x x|x]", "[x x x|x x]", "[x x|x]", "[x x|x]"},
		{"[x x x x|x]", "[x x|x][(xxx)|]", "[x x x x|x x]", "[x x x|x]", "[x x|x x]"},
		{"[x x x x|x x x x]", "[x x|x x x x][(xxx)|]", "[x x x x|x x][(xxx)|]", "[x x x|x x x x]", "[x x x x|x x x]"},
	})
}

func TestPushingAtFullEndsOfSeveralLevels(t *testing.T) {
	checkEndings(t, []endings{
		{"[x x x x|x x x x][(xx)|]", "[x x|x x x x][(xxx)|(xx)]", "[x x x x|x x][(xx)|(xxx)]", "[x x x|x x x x][(xx)|]", "[x x x x|x x x][(xx)|]"},
		{
			"[x x x x|x x x x][(xx)|(xxx) (xx)]",
			"[x x|x x x x][(xxx) (xx)|(xxx) (xx)]",
			"[x x x x|x x][(xx)|(xxx) (xx) (xxx)]",
			"[x x x|x x x x][(xx)|(xxx) (xx)]",
			"[x x x x|x x x][(xx)|(xxx) (xx)]",
		},
		{
			"[x x x x|x][(xx) (xxx) (xx) (xx)|(xxx)]",
			"[x x|x][(xxx) (xx)|(xxx)][((xxx)(xx)(xx))|]",
			"[x x x x|x x][(xx) (xxx) (xx) (xx)|(xxx)]",
			"[x x x|x][(xx) (xxx) (xx) (xx)|(xxx)]",
			"[x x x x|x x x][(xx) (xxx)|(xx) (xx)]",
		},
		{
			"[x|x x x x][(xxx)|(xx) (xxx) (xx) (xx)]",
			"[x x|x x x x][(xxx)|(xx) (xxx) (xx) (xx)]",
			"[x|x x][(xxx)|(xx) (xxx)][((xx)(xxx)(xx))|]",
			"[x x x|x x x x][(xx) (xxx)|(xx) (xx)]",
			"[x|x x x][(xxx)|(xx) (xxx) (xx) (xx)]",
		},
		{
			"[x x x x|x x x x][(xx) (xxx) (xx) (xx)|(xx) (xx) (xxx) (xx)][((xx)(xxx))|]",
			"[x x|x x x x][(xxx) (xx)|(xx) (xx) (xxx) (xx)][((xxx)(xx)(xx))|((xx)(xxx))]",
			"[x x x x|x x][(xx) (xxx) (xx) (xx)|(xx) (xxx)][((xx)(xxx))|((xx)(xx)(xxx))]",
			"[x x x|x x x x][(xx) (xxx) (xx) (xx)|(xx) (xx) (xxx) (xx)][((xx)(xxx))|]",
			"[x x x x|x x x][(xx) (xxx) (xx) (xx)|(xx) (xx) (xxx) (xx)][((xx)(xxx))|]",
		},
	})
}

func TestPoppingTheLastNodeOfAnEnd(t *testing.T) {
	checkEndings(t, []endings{
		{"[x|x][(xx)|]", "[x x|x][(xx)|]", "[x|x x][(xx)|]", "[x x|x]", "[x|x x]"},
		{"[x|x][(xxx)|]", "[x x|x][(xxx)|]", "[x|x x][(xxx)|]", "[x x x|x]", "[x|x x x]"},
		{"[x|x][(xx)|(xxx)]", "[x x|x][(xx)|(xxx)]", "[x|x x][(xx)|(xxx)]", "[x x|x][(xxx)|]", "[x|x x x][(xx)|]"},
		{"[x|x][(xx) (xxx)|(xx)]", "[x x|x][(xx) (xxx)|(xx)]", "[x|x x][(xx) (xxx)|(xx)]", "[x x|x][(xxx)|(xx)]", "[x|x x][(xx)|(xxx)]"},
		{"[x|x][(xx)|(xxx) (xxx)]", "[x x|x][(xx)|(xxx) (xxx)]", "[x|x x][(xx)|(xxx) (xxx)]", "[x x|x][(xxx)|(xxx)]", "[x|x x x][(xx)|(xxx)]"},
		{
			"[x|x][(xx)|(xxx) (xx) (xxx)]",
			"[x x|x][(xx)|(xxx) (xx) (xxx)]",
			"[x|x x][(xx)|(xxx) (xx) (xxx)]",
			"[x x|x][(xxx) (xx)|(xxx)]",
			"[x|x x x][(xx)|(xxx) (xx)]",
		},
		{
			"[x|x][(xxx) (xx) (xxx)|(xx)]",
			"[x x|x][(xxx) (xx) (xxx)|(xx)]",
			"[x|x x][(xxx) (xx) (xxx)|(xx)]",
			"[x x x|x][(xx) (xxx)|(xx)]",
			"[x|x x][(xxx) (xx)|(xxx)]",
		},
		{
			"[x|x][(xx)|(xxx)][((xx)(xxx))|]",
			"[x x|x][(xx)|(xxx)][((xx)(xxx))|]",
			"[x|x x][(xx)|(xxx)][((xx)(xxx))|]",
			"[x x|x][(xx) (xxx)|(xxx)]",
			"[x|x x x][(xx)|(xx) (xxx)]",
		},
		{
			"[x|x][(xx)|(xxx)][((xx)(xxx))|((xxx)(xx)(xx))]",
			"[x x|x][(xx)|(xxx)][((xx)(xxx))|((xxx)(xx)(xx))]",
			"[x|x x][(xx)|(xxx)][((xx)(xxx))|((xxx)(xx)(xx))]",
			"[x x|x][(xx) (xxx)|(xxx)][((xxx)(xx)(xx))|]",
			"[x|x x x][(xx)|(xxx) (xx) (xx)][((xx)(xxx))|]",
		},
	})
}

func TestPoppingUntilTheTreeIsEmpty(t *testing.T) {
	pops := []func(impl.Fing) (impl.Fing, bool){impl.FingUncons, impl.FingUnsnoc}
	turns := map[string][]int{"front": {0}, "back": {1}, "alternately": {0, 1}, "twice each": {0, 0, 1, 1}, "unevenly": {1, 1, 1, 0}}
	for _, n := range []int{0, 1, 2, 3, 4, 5, 6, 7, 8, 9, 10, 17, 23, 24, 31, 32, 33, 63, 64, 127, 128, 198, 199, 200} {
		for name, turn := range turns {
			f := impl.FingNew(n)
			for left := n; left > 0; left-- {
				checkEnds(t, f)
				g, ok := pops[turn[left%len(turn)]](f)
				if !ok || impl.FingLeaves(g) != left-1 {
					t.Fatalf("of %d leaves, popped from %s, %d are left of %d", n, name, impl.FingLeaves(g), left)
				}
				f = g
			}
			checkFing(t, "the tree with nothing left", f, "")
			checkEnds(t, f)
		}
	}
}

func TestPushingUntilTheTreeIsFull(t *testing.T) {
	pushes := []func(impl.Fing) (impl.Fing, bool){impl.FingCons, impl.FingSnoc}
	for name, turn := range map[string][]int{"front": {0}, "back": {1}, "alternately": {0, 1}, "unevenly": {1, 0, 0}} {
		var f impl.Fing
		for n := range 200 {
			checkEnds(t, f)
			g, ok := pushes[turn[n%len(turn)]](f)
			if !ok || impl.FingLeaves(g) != n+1 {
				t.Fatalf("pushed at %s, %d leaves became %d", name, n, impl.FingLeaves(g))
			}
			f = g
		}
		checkEnds(t, f)
		for _, push := range pushes {
			g, ok := push(f)
			checkNoFing(t, "pushing a leaf more", g, ok)
		}
	}
}

func TestTreesUnderRandomPushesAndPops(t *testing.T) {
	random := rand.New(rand.NewSource(8))
	calls := []func(impl.Fing) (impl.Fing, bool){impl.FingCons, impl.FingSnoc, impl.FingUncons, impl.FingUnsnoc}
	for range 20 {
		f := impl.FingNew(random.Intn(201))
		growth := 2 + random.Intn(5)
		for range 100 {
			checkEnds(t, f)
			call := random.Intn(2)
			if random.Intn(8) >= growth {
				call += 2
			}
			if g, ok := calls[call](f); ok {
				f = g
			}
		}
	}
}

func TestRandomTrees(t *testing.T) {
	random := rand.New(rand.NewSource(9))
	var last impl.Fing
	for range 2000 {
		f := randomFing(random)
		checkEnds(t, f)
		checkConcat(t, last, f)
		last = f
	}
}

func TestConcatenations(t *testing.T) {
	for _, x := range []struct{ a, b, want string }{
		{"", "", ""},
		{"", "[x|]", "[x|]"},
		{"[x|]", "", "[x|]"},
		{"", "[x x|x][(xx)|(xxx)]", "[x x|x][(xx)|(xxx)]"},
		{"[x x|x][(xx)|(xxx)]", "", "[x x|x][(xx)|(xxx)]"},
		// A single level on either side, above another level as well.
		{"[x|]", "[x|]", "[x|x]"},
		{"[x|]", "[x|x x]", "[x x|x x]"},
		{"[x x|x]", "[x|]", "[x x|x x]"},
		{"[x|]", "[x x x x|x]", "[x x|x][(xxx)|]"},
		{"[x|x x x x]", "[x|]", "[x|x x][(xxx)|]"},
		{"[x|]", "[x x x x|x][(xx)|]", "[x x|x][(xxx)|(xx)]"},
		{"[x|x x x x][(xx)|]", "[x|]", "[x|x x][(xx)|(xxx)]"},
		{"[x|x x x][(xx)|]", "[x x|x][(xxx)|(xxx)]", "[x|x][(xx) (xxx) (xx) (xxx)|(xxx)]"},
		{"[x|x x x][(xxx)|(xxx)]", "[x x|x][(xx)|]", "[x|x][(xxx)|(xxx) (xxx) (xx) (xx)]"},
		{"[x|x x x][(xx)|]", "[x x|x][(xxx)|]", "[x|x][(xx) (xxx) (xx)|(xxx)]"},
		{"[x|x x x][(xx)|]", "[x x|x][(xxx) (xx) (xxx)|(xxx)]", "[x|x][(xx) (xxx) (xx)|(xxx)][((xxx)(xx)(xxx))|]"},
		{"[x|x x x][(xxx)|(xxx) (xx) (xxx)]", "[x x|x][(xx)|]", "[x|x][(xxx)|(xxx) (xx) (xx)][((xxx)(xx)(xxx))|]"},
		// One tree is higher.
		{"[x|x x x]", "[x x|x][(xxx)|(xx)]", "[x|x][(xxx) (xx) (xxx)|(xx)]"},
		{"[x|x x x][(xxx)|(xx)]", "[x x|x]", "[x|x][(xxx)|(xx) (xxx) (xx)]"},
		{"[x|x]", "[x|x][(xx)|(xx)][((xx)(xxx))|]", "[x|x][(xx) (xx)|(xx)][((xx)(xxx))|]"},
		{"[x|x][(xx)|(xx)][((xx)(xxx))|]", "[x|x]", "[x|x][(xx)|(xx) (xx)][((xx)(xxx))|]"},
		{"[x|x x]", "[x x|x][(xx) (xx) (xxx) (xx)|(xx)][((xx)(xxx))|]", "[x|x][(xx) (xx) (xx)|(xx)][((xx)(xxx)(xx))|((xx)(xxx))]"},
		{"[x|x x][(xx)|(xx) (xxx) (xx) (xx)][((xx)(xxx))|]", "[x x|x]", "[x|x][(xx)|(xx) (xx) (xx)][((xx)(xxx))|((xx)(xxx)(xx))]"},
		{"[x|x x x x][(xx)|]", "[x|x]", "[x|x][(xx)|(xxx) (xx)]"},
		{"[x|x]", "[x x x x|x][(xx)|]", "[x|x][(xxx) (xx)|(xx)]"},
		// Eight nodes in the middle of level 0, and eleven in that of level 1.
		{
			"[x|x x x x][(xx)|(xx) (xx) (xx) (xxx)]",
			"[x x x x|x][(xxx) (xx) (xx) (xx)|(xx)]",
			"[x|x][(xx)|(xx)][((xx)(xx)(xx)) ((xxx)(xxx)(xxx)) ((xx)(xxx)(xx))|((xx)(xx))]",
		},
	} {
		a, b := fingOf(x.a), fingOf(x.b)
		checkConcat(t, a, b)
		c, ok := impl.FingConcat(a, b)
		if got := modelText(c.Levels); !ok || got != x.want {
			t.Errorf("the concatenation of %q and %q is %v, %s, want %s", x.a, x.b, ok, got, x.want)
		}
	}
}

func TestNodesInTheMiddle(t *testing.T) {
	below := map[int]string{2: "(xx)|", 3: "(xxx)|", 4: "(xx)|(xx)", 5: "(xxx)|(xx)", 6: "(xxx)|(xxx)", 7: "(xxx) (xx)|(xx)", 8: "(xxx) (xxx)|(xx)"}
	for suf := 1; suf <= 4; suf++ {
		for pre := 1; pre <= 4; pre++ {
			a, b := fingOf("[x x|"+xs(suf)+"]"), fingOf("["+xs(pre)+"|x x x]")
			checkConcat(t, a, b)
			c, _ := impl.FingConcat(a, b)
			checkFing(t, fmt.Sprintf("%d and %d nodes in the middle", suf, pre), c, "[x x|x x x]["+below[suf+pre]+"]")
		}
	}
}

// threeLevels has that many nodes at one end of its levels, and one at the other.
func threeLevels(counts [3]int, suffix bool) impl.Fing {
	var f impl.Fing
	for depth, n := range counts {
		l := impl.Level{Pre: []string{nodeWithLeaves(depth, pow(2, depth))}}
		for range n {
			l.Suf = append(l.Suf, nodeWithLeaves(depth, pow(2, depth)+depth))
		}
		if !suffix {
			l.Pre, l.Suf = l.Suf, l.Pre
		}
		f.Levels = append(f.Levels, l)
	}
	return f
}

func TestNodesInTheMiddleOfSeveralLevels(t *testing.T) {
	var lefts, rights []impl.Fing
	for i := range 64 {
		counts := [3]int{1 + i%4, 1 + i/4%4, 1 + i/16}
		lefts = append(lefts, threeLevels(counts, true))
		rights = append(rights, threeLevels(counts, false))
	}
	for _, a := range lefts {
		for _, b := range rights {
			checkConcat(t, a, b)
		}
	}
}

func TestConcatenationsOfPushedTrees(t *testing.T) {
	for n := range 201 {
		a := impl.FingNew(n)
		var b impl.Fing
		for k := range 8 {
			checkConcat(t, a, b)
			checkConcat(t, b, a)
			checkConcat(t, impl.FingNew(k), b)
			b, _ = impl.FingCons(b)
		}
	}
	random := rand.New(rand.NewSource(10))
	for range 2000 {
		checkConcat(t, impl.FingNew(random.Intn(110)), impl.FingNew(random.Intn(110)))
	}
}

func TestConcatenationsOfManyTrees(t *testing.T) {
	random := rand.New(rand.NewSource(11))
	for range 100 {
		var f impl.Fing
		for {
			g := impl.FingNew(random.Intn(30))
			checkConcat(t, f, g)
			checkConcat(t, g, f)
			next, ok := impl.FingConcat(f, g)
			if random.Intn(2) == 0 {
				next, ok = impl.FingConcat(g, f)
			}
			if !ok {
				break
			}
			f = next
			checkEnds(t, f)
		}
	}
}

func TestTheMostLeaves(t *testing.T) {
	for n := range 201 {
		for _, sum := range []int{199, 200, 201} {
			if sum < n || sum-n > 200 {
				continue
			}
			a, b := impl.FingNew(n), impl.FingNew(sum-n)
			checkConcat(t, a, b)
			c, ok := impl.FingConcat(a, b)
			if ok != (sum <= 200) {
				t.Fatalf("%d and %d leaves together: %v", n, sum-n, ok)
			}
			if ok {
				checkEnds(t, c)
			}
		}
	}
	full := impl.FingNew(200)
	checkEnds(t, full)
	checkConcat(t, full, full)
	checkConcat(t, full, impl.Fing{})
	checkConcat(t, impl.Fing{}, full)
	for i, l := range full.Levels {
		if len(l.Suf) == 0 || len(l.Pre) == 4 {
			continue
		}
		full.Levels[i].Pre = append(slices.Clone(l.Pre), l.Pre[0])
		checkInvalidFing(t, full)
		full.Levels[i].Pre = l.Pre
		checkEnds(t, full)
	}
}

func TestTreesWithTooManyLeaves(t *testing.T) {
	// 62 leaves above level 5.
	upper := ""
	for depth := range 5 {
		s := nodeWithLeaves(depth, pow(2, depth))
		upper += "[" + s + "|" + s + "]"
	}
	for leaves := 136; leaves <= 140; leaves++ {
		f := fingOf(upper + "[" + nodeWithLeaves(5, leaves) + "|]")
		if leaves <= 138 {
			checkEnds(t, f)
		} else {
			checkInvalidFing(t, f)
		}
	}
	for _, leaves := range []int{199, 200, 201, 243} {
		checkInvalidFing(t, fingOf(upper+"["+nodeWithLeaves(5, leaves)+"|]"))
	}
	// 14 leaves above level 3, and 162 below it.
	upper = "[x|x][(xx)|(xx)][((xx)(xx))|((xx)(xx))]"
	lower := "[" + nodeWithLeaves(4, 81) + "|" + nodeWithLeaves(4, 81) + "]"
	for _, leaves := range []int{11, 12, 13, 14, 27} {
		f := fingOf(upper + "[" + nodeWithLeaves(3, leaves) + "|" + nodeWithLeaves(3, 12) + "]" + lower)
		if leaves <= 12 {
			checkEnds(t, f)
		} else {
			checkInvalidFing(t, f)
		}
	}
}

func TestInvalidTrees(t *testing.T) {
	list := fingsOf(
		// An empty Pre, or an empty Suf of a level that is not single.
		"[|]", "[|x]", "[|x x]", "[|x x x x]", "[x x|]", "[x x x|]", "[x x x x|]", "[|][(xx)|]", "[|x][(xx)|]", "[x x|][(xx)|]",
		"[x|x][|]", "[x|x][|(xx)]", "[x|x][(xx) (xx)|]", "[x|x][(xx)|(xx)][|]", "[x|x][|][((xx)(xx))|]", "[x|x][|(xx)][((xx)(xx))|]",
		// More than four nodes.
		"[x x x x x|]", "[x x x x x|x]", "[x|x x x x x]", "[x x x x x|x x x x x]", "[|x x x x x]", "[x|x][(xx) (xx) (xx) (xx) (xx)|(xx)]", "[x|x][(xx)|(xx) (xx) (xx) (xx) (xx)]",
		"["+xs(100)+"|"+xs(100)+"]",
		// A single level that is not the last one.
		"[x|][(xx)|]", "[x|][(xx)|(xx)]", "[x|][|]", "[x|][x|]", "[x|x][(xx)|][((xx)(xx))|]", "[x|x][(xx)|][((xx)(xx))|((xx)(xx))]",
		// A node of the wrong depth, or none.
		"[(xx)|]", "[x|(xx)]", "[(xx)|x]", "[(xx)|(xx)]", "[x x x (xx)|x]", "[x|x x x (xx)]", "[x|x][x|]", "[x|x][x|x]", "[x|x][(xx)|x]", "[x|x][x|(xx)]",
		"[x|x][((xx)(xx))|]", "[x|x][(xx)|((xx)(xx))]", "[x|x][(xx)|(x)]", "[x|x][(xxxx)|]", "[x|x][((xx))|]", "[x|x][()|]", "[x|x][(xx|]", "[x|x][xx)|]", "[x|x][(xx)x|]",
		"[x|x][(xx)(xx)|]", "[y|]", "[x|y]", "[xx|x]", "[X|x]", "[x|x][(xx)|(xx)][(xx)|]", "[x|x][(xx)|(xx)][((xx)xx)|]", "[x|x][(xx)|(xx)][(x(xx))|]",
	)
	list = append(list,
		impl.Fing{Levels: []impl.Level{{}}},
		impl.Fing{Levels: []impl.Level{{}, {}}},
		impl.Fing{Levels: []impl.Level{{Pre: []string{"x"}, Suf: []string{"x"}}, {}}},
		impl.Fing{Levels: []impl.Level{{Pre: []string{}, Suf: []string{}}}},
		impl.Fing{Levels: []impl.Level{{Pre: []string{""}}}},
		impl.Fing{Levels: []impl.Level{{Pre: []string{"x", ""}, Suf: []string{"x"}}}},
		impl.Fing{Levels: []impl.Level{{Pre: []string{"x"}, Suf: []string{""}}}},
		impl.Fing{Levels: []impl.Level{{Pre: []string{"x x"}}}},
		impl.Fing{Levels: []impl.Level{{Pre: []string{"x|x"}}}},
		impl.Fing{Levels: []impl.Level{{Pre: []string{"x|x][(xx)"}}}},
	)
	for _, f := range list {
		checkInvalidFing(t, f)
	}
}

func TestTreesAsHighAsTheirLeavesAllow(t *testing.T) {
	text := ""
	for depth := range 10 {
		s := nodeWithLeaves(depth, pow(2, depth))
		f := fingOf(text + "[" + s + "|]")
		// 3 * 2^depth - 2 leaves: the seventh level is the last one that fits.
		if depth <= 6 {
			checkEnds(t, f)
			checkConcat(t, f, impl.FingNew(200-leavesOf(f)))
			checkConcat(t, impl.FingNew(200-leavesOf(f)), f)
		} else {
			checkInvalidFing(t, f)
		}
		text += "[" + s + "|" + s + "]"
	}
}

func TestOneChangeOfATree(t *testing.T) {
	random := rand.New(rand.NewSource(12))
	for range 2000 {
		f := randomFing(random)
		if len(f.Levels) == 0 {
			continue
		}
		depth := random.Intn(len(f.Levels))
		l := &f.Levels[depth]
		valid := true
		switch random.Intn(4) {
		case 0:
			valid = len(l.Pre) < 4 && len(l.Suf) > 0
			l.Pre = append(l.Pre, randomNode(random, depth))
		case 1:
			valid = len(l.Suf) < 4
			l.Suf = append(l.Suf, randomNode(random, depth))
		case 2:
			valid = len(l.Pre) > 1
			l.Pre = l.Pre[1:]
		case 3:
			valid = false
			l.Pre[random.Intn(len(l.Pre))] = randomNode(random, depth+1)
		}
		if valid && leavesOf(f) <= 200 {
			checkEnds(t, f)
		} else {
			checkInvalidFing(t, f)
		}
	}
}

// roomyFing copies f with room behind every slice, in which other nodes and levels stand.
func roomyFing(f impl.Fing) impl.Fing {
	roomy := func(list []string) []string {
		return append(slices.Clone(list), "behind", "(xx)", "x")[:len(list)]
	}
	var levels []impl.Level
	for _, l := range f.Levels {
		levels = append(levels, impl.Level{Pre: roomy(l.Pre), Suf: roomy(l.Suf)})
	}
	behind := impl.Level{Pre: []string{"behind"}}
	return impl.Fing{Levels: append(levels, behind, behind)[:len(levels)]}
}

// allOf shows a tree with what stands behind its slices.
func allOf(f impl.Fing) string {
	text := ""
	for _, l := range f.Levels[:cap(f.Levels)] {
		text += fmt.Sprintln(len(l.Pre), l.Pre[:cap(l.Pre)], len(l.Suf), l.Suf[:cap(l.Suf)])
	}
	return text
}

func overwriteNodes(list []string) {
	whole := list[:cap(list)]
	for i := range whole {
		whole[i] = "#"
	}
}

// checkOwnMemory calls the function several times, and each time overwrites another slice of the result.
func checkOwnMemory(t *testing.T, name string, call func() (impl.Fing, bool), arguments ...impl.Fing) {
	t.Helper()
	var before []string
	for _, f := range arguments {
		before = append(before, allOf(f))
	}
	first, _ := call()
	want := modelText(first.Levels)
	for i := range 2 * len(first.Levels) {
		g, _ := call()
		if modelText(g.Levels) != want {
			t.Fatalf("%s returned %s, and then %s", name, want, modelText(g.Levels))
		}
		l := &g.Levels[i/2]
		if i%2 == 0 {
			overwriteNodes(l.Pre)
			l.Pre = first.Levels[i/2].Pre
		} else {
			overwriteNodes(l.Suf)
			l.Suf = first.Levels[i/2].Suf
		}
		if modelText(g.Levels) != want {
			t.Fatalf("two slices of %s share memory: %s became %s", name, want, modelText(g.Levels))
		}
	}
	g, _ := call()
	clear(g.Levels[:cap(g.Levels)])
	if modelText(first.Levels) != want {
		t.Fatalf("two results of %s share memory: %s became %s", name, want, modelText(first.Levels))
	}
	for i, f := range arguments {
		if after := allOf(f); after != before[i] {
			t.Fatalf("%s changed its argument from %s to %s", name, before[i], after)
		}
	}
}

func TestTreesShareNoMemory(t *testing.T) {
	list := fingsOf(
		"", "[x|]", "[x|x]", "[x x x x|x x x x]", "[x|x x x]", "[x x x|x]", "[x|x][(xx)|]", "[x|x][(xx)|(xxx)]",
		"[x x x x|x x x x][(xx) (xx) (xx) (xx)|(xx) (xx) (xx) (xx)]", "[x|x][(xx)|(xxx)][((xx)(xx))|]", "[x|x x][(xx)|(xx) (xxx) (xx) (xx)][((xx)(xxx))|]",
	)
	for _, x := range list {
		f := roomyFing(x)
		text := modelText(f.Levels)
		checkOwnMemory(t, "FingCons of "+text, func() (impl.Fing, bool) { return impl.FingCons(f) }, f)
		checkOwnMemory(t, "FingSnoc of "+text, func() (impl.Fing, bool) { return impl.FingSnoc(f) }, f)
		checkOwnMemory(t, "FingUncons of "+text, func() (impl.Fing, bool) { return impl.FingUncons(f) }, f)
		checkOwnMemory(t, "FingUnsnoc of "+text, func() (impl.Fing, bool) { return impl.FingUnsnoc(f) }, f)
		for _, y := range list {
			g := roomyFing(y)
			checkOwnMemory(t, "FingConcat of "+text+" and "+modelText(g.Levels), func() (impl.Fing, bool) { return impl.FingConcat(f, g) }, f, g)
		}
		checkOwnMemory(t, "FingConcat of "+text+" and itself", func() (impl.Fing, bool) { return impl.FingConcat(f, f) }, f)
		checkEnds(t, f)
	}
	for _, n := range []int{0, 1, 2, 5, 6, 50, 200} {
		checkOwnMemory(t, fmt.Sprintf("FingNew of %d", n), func() (impl.Fing, bool) { return impl.FingNew(n), true })
	}
}

func TestInvalidTreesAreNotModified(t *testing.T) {
	for _, x := range fingsOf("[x x|]", "[|x]", "[x|][(xx)|]", "[x|x][x|]", "[x x x x x|x]") {
		f := roomyFing(x)
		before := allOf(f)
		checkInvalidFing(t, f)
		if after := allOf(f); after != before {
			t.Errorf("%s became %s", before, after)
		}
	}
}

func TestNodesBehindASliceAreNotRead(t *testing.T) {
	nodes := []string{"x", "x", "x", "x", "x", "(xx)", ""}
	f := impl.Fing{Levels: []impl.Level{{Pre: nodes[:4], Suf: nodes[:1]}, {Pre: nodes[:1]}}[:1]}
	checkFing(t, "the tree", f, "[x x x x|x]")
	checkEnds(t, f)
	f.Levels[0] = impl.Level{Pre: nodes[:1], Suf: nodes[:0]}
	checkFing(t, "the tree", f, "[x|]")
	checkEnds(t, f)
}
