package tests

import (
	"math"
	"math/rand"
	"slices"
	"strings"
	"testing"

	"loop.example/g00677/impl"
)

// modelSmall follows the document for an edit and for positions.
func modelSmall(e impl.Edit, places ...int) bool {
	for _, p := range places {
		if p < 0 || p > 800 {
			return false
		}
	}
	return e.At >= 0 && e.At <= 400 && e.Cut >= 0 && e.Cut <= 400 && len(e.Put) <= 400
}

func modelPlace(p int, right bool, e impl.Edit) int {
	if !modelSmall(e, p) {
		return -1
	}
	if p < e.At {
		return p
	}
	if p == e.At || p >= e.At && p < e.At+e.Cut {
		if right {
			return e.At + len(e.Put)
		}
		return e.At
	}
	return p - e.Cut + len(e.Put)
}

func modelSpan(i int, j int, e impl.Edit) (int, int) {
	if !modelSmall(e, i, j) || j < i {
		return -1, -1
	}
	a, b := modelPlace(i, true, e), modelPlace(j, false, e)
	if b < a || i == j {
		return a, a
	}
	return a, b
}

func modelMove(e impl.Edit, by impl.Edit) (impl.Edit, bool) {
	if !modelSmall(e) || !modelSmall(by) {
		return impl.Edit{}, false
	}
	i, j := modelSpan(e.At, e.At+e.Cut, by)
	return edit(i, j-i, string(e.Put)), true
}

func modelMoves(e impl.Edit, list []impl.Edit) (impl.Edit, bool) {
	ok := modelSmall(e)
	for _, by := range list {
		if !ok {
			break
		}
		e, ok = modelMove(e, by)
	}
	if !ok {
		return impl.Edit{}, false
	}
	return e, true
}

// modelHits looks at each byte that e cuts.
func modelHits(e impl.Edit, i int, j int) bool {
	if !modelSmall(e, i, j) || i >= j {
		return false
	}
	for at := e.At; at < e.At+e.Cut; at++ {
		if i <= at && at < j {
			return true
		}
	}
	return e.Cut == 0 && e.At > i && e.At < j
}

func modelApart(a impl.Edit, b impl.Edit) bool {
	if !modelSmall(a) || !modelSmall(b) {
		return false
	}
	return a.At+a.Cut < b.At || b.At+b.Cut < a.At
}

func modelSel(s impl.Sel, e impl.Edit, own bool) impl.Sel {
	if !modelSmall(e, s.From, s.To) {
		return impl.Sel{}
	}
	return impl.Sel{From: modelPlace(s.From, own || s.From > s.To, e), To: modelPlace(s.To, own || s.To > s.From, e)}
}

func checkPlaceTo(t *testing.T, p int, right bool, e impl.Edit, want int) {
	t.Helper()
	if got := impl.PosMove(p, right, e); got != want {
		t.Fatalf("PosMove(%d, %v, %s) = %d, want %d", p, right, editText(e), got, want)
	}
}

func checkMovedPlace(t *testing.T, p int, e impl.Edit) {
	t.Helper()
	for _, right := range []bool{false, true} {
		checkPlaceTo(t, p, right, e, modelPlace(p, right, e))
	}
}

func checkSpanTo(t *testing.T, i int, j int, e impl.Edit, wantI int, wantJ int) {
	t.Helper()
	if gotI, gotJ := impl.SpanMove(i, j, e); gotI != wantI || gotJ != wantJ {
		t.Fatalf("SpanMove(%d, %d, %s) = %d, %d, want %d, %d", i, j, editText(e), gotI, gotJ, wantI, wantJ)
	}
}

func checkMovedSpan(t *testing.T, i int, j int, e impl.Edit) {
	t.Helper()
	wantI, wantJ := modelSpan(i, j, e)
	checkSpanTo(t, i, j, e, wantI, wantJ)
}

func checkMoveTo(t *testing.T, e impl.Edit, by impl.Edit, want impl.Edit) {
	t.Helper()
	if got, ok := impl.EditMove(e, by); !ok || !sameEdit(got, want) {
		t.Fatalf("EditMove(%s, %s) = %s, %v, want %s", editText(e), editText(by), editText(got), ok, editText(want))
	}
}

func checkNoMove(t *testing.T, e impl.Edit, by impl.Edit) {
	t.Helper()
	if got, ok := impl.EditMove(e, by); ok || !sameEdit(got, impl.Edit{}) {
		t.Fatalf("EditMove(%s, %s) = %s, %v", editText(e), editText(by), editText(got), ok)
	}
}

func checkMove(t *testing.T, e impl.Edit, by impl.Edit) {
	t.Helper()
	want, ok := modelMove(e, by)
	if !ok {
		checkNoMove(t, e, by)
		return
	}
	checkMoveTo(t, e, by, want)
}

func checkMovesTo(t *testing.T, e impl.Edit, list []impl.Edit, want impl.Edit, wantOk bool) {
	t.Helper()
	if got, ok := impl.EditMoves(e, list); ok != wantOk || !sameEdit(got, want) {
		t.Fatalf("EditMoves(%s, %s) = %s, %v, want %s, %v", editText(e), editTexts(list), editText(got), ok, editText(want), wantOk)
	}
}

// checkMoves compares EditMoves with the model, and with what it does to the list in two parts.
func checkMoves(t *testing.T, e impl.Edit, list []impl.Edit) {
	t.Helper()
	want, wantOk := modelMoves(e, list)
	checkMovesTo(t, e, list, want, wantOk)
	for k := range list {
		middle, ok := impl.EditMoves(e, list[:k])
		if !ok {
			checkMovesTo(t, e, list, impl.Edit{}, false)
			continue
		}
		if first, ok := impl.EditMove(middle, list[k]); ok {
			checkMovesTo(t, e, list[:k+1], first, true)
		} else {
			checkMovesTo(t, e, list[:k+1], impl.Edit{}, false)
		}
		checkMovesTo(t, middle, list[k:], want, wantOk)
	}
}

func checkHitsIs(t *testing.T, e impl.Edit, i int, j int, want bool) {
	t.Helper()
	if got := impl.EditHits(e, i, j); got != want {
		t.Fatalf("EditHits(%s, %d, %d) = %v", editText(e), i, j, got)
	}
}

func checkHits(t *testing.T, e impl.Edit, i int, j int) {
	t.Helper()
	checkHitsIs(t, e, i, j, modelHits(e, i, j))
}

// checkApartIs asks in either order.
func checkApartIs(t *testing.T, a impl.Edit, b impl.Edit, want bool) {
	t.Helper()
	if got := impl.EditsApart(a, b); got != want {
		t.Fatalf("EditsApart(%s, %s) = %v", editText(a), editText(b), got)
	}
	if got := impl.EditsApart(b, a); got != want {
		t.Fatalf("EditsApart(%s, %s) = %v", editText(b), editText(a), got)
	}
}

func checkApart(t *testing.T, a impl.Edit, b impl.Edit) {
	t.Helper()
	checkApartIs(t, a, b, modelApart(a, b))
}

func checkSelTo(t *testing.T, from int, to int, e impl.Edit, own bool, wantFrom int, wantTo int) {
	t.Helper()
	want := impl.Sel{From: wantFrom, To: wantTo}
	if got := impl.SelMove(impl.Sel{From: from, To: to}, e, own); got != want {
		t.Fatalf("SelMove({%d, %d}, %s, %v) = %v, want %v", from, to, editText(e), own, got, want)
	}
}

func checkMovedSel(t *testing.T, from int, to int, e impl.Edit) {
	t.Helper()
	for _, own := range []bool{false, true} {
		want := modelSel(impl.Sel{From: from, To: to}, e, own)
		checkSelTo(t, from, to, e, own, want.From, want.To)
	}
}

func checkSelOk(t *testing.T, text string, from int, to int, want bool) {
	t.Helper()
	if got := impl.SelOk([]byte(text), impl.Sel{From: from, To: to}); got != want {
		t.Fatalf("SelOk(%q, {%d, %d}) = %v", text, from, to, got)
	}
}

// gridEdits are all edits with small fields, and one that is not small for each field.
func gridEdits() []impl.Edit {
	list := []impl.Edit{edit(-1, 1, "a"), edit(1, -1, "a"), edit(401, 0, ""), edit(0, 401, ""), edit(0, 0, strings.Repeat("a", 401))}
	for at := range 6 {
		for cut := range 4 {
			for _, put := range []string{"", "a", "\u00e9", "abc", "\u20acab"} {
				list = append(list, edit(at, cut, put))
			}
		}
	}
	return list
}

// farNumbers are the limits of positions, too.
func farNumbers() []int {
	return append(limitNumbers(), 402, 799, 801, 802, math.MaxInt-800, math.MaxInt-801, math.MinInt+400, math.MinInt+800)
}

// someEdits are valid for the text.
func someEdits(text string, puts ...string) []impl.Edit {
	var list []impl.Edit
	places := wantBoundaries([]byte(text))
	for n, i := range places {
		for _, j := range places[n:] {
			for _, put := range puts {
				list = append(list, edit(i, j-i, put))
			}
		}
	}
	return list
}

func randomEdit(random *rand.Rand, text string, most int) impl.Edit {
	i, j := randomPlace(random, text), randomPlace(random, text)
	return edit(min(i, j), max(i, j)-min(i, j), textOf(randomRope(random, most)))
}

func TestMoveExamples(t *testing.T) {
	e := edit(3, 2, "abc")
	checkPlaceTo(t, 4, false, e, 3)
	checkPlaceTo(t, 4, true, e, 6)
	checkPlaceTo(t, 9, false, e, 10)
	checkPlaceTo(t, 9, true, e, 10)
	checkSpanTo(t, 1, 9, e, 1, 10)
	checkSpanTo(t, 3, 5, e, 6, 6)
	checkMoveTo(t, edit(5, 2, "z"), e, edit(6, 2, "z"))
	checkHitsIs(t, edit(4, 0, "x"), 3, 5, true)
	checkHitsIs(t, edit(3, 0, "x"), 3, 5, false)
	checkHitsIs(t, edit(5, 0, "x"), 3, 5, false)
	checkSelTo(t, 3, 3, e, false, 3, 3)
	checkSelTo(t, 3, 3, e, true, 6, 6)
}

func TestPositionsAtTheEdgesOfAnEdit(t *testing.T) {
	list := []struct {
		e           impl.Edit
		p           int
		left, right int
	}{
		// Before, at and one past At; before, at and one past At + Cut.
		{edit(3, 3, "abcde"), 0, 0, 0},
		{edit(3, 3, "abcde"), 2, 2, 2},
		{edit(3, 3, "abcde"), 3, 3, 8},
		{edit(3, 3, "abcde"), 4, 3, 8},
		{edit(3, 3, "abcde"), 5, 3, 8},
		{edit(3, 3, "abcde"), 6, 8, 8},
		{edit(3, 3, "abcde"), 7, 9, 9},
		{edit(3, 3, "abcde"), 800, 802, 802},
		// A cut of one byte.
		{edit(3, 1, "ab"), 2, 2, 2},
		{edit(3, 1, "ab"), 3, 3, 5},
		{edit(3, 1, "ab"), 4, 5, 5},
		{edit(3, 1, "ab"), 5, 6, 6},
		// Cuts nothing.
		{edit(3, 0, "abc"), 2, 2, 2},
		{edit(3, 0, "abc"), 3, 3, 6},
		{edit(3, 0, "abc"), 4, 7, 7},
		{edit(0, 0, "\u20ac"), 0, 0, 3},
		{edit(0, 0, "\u20ac"), 1, 4, 4},
		// Puts nothing.
		{edit(3, 2, ""), 2, 2, 2},
		{edit(3, 2, ""), 3, 3, 3},
		{edit(3, 2, ""), 4, 3, 3},
		{edit(3, 2, ""), 5, 3, 3},
		{edit(3, 2, ""), 6, 4, 4},
		{edit(0, 400, ""), 0, 0, 0},
		{edit(0, 400, ""), 399, 0, 0},
		{edit(0, 400, ""), 400, 0, 0},
		{edit(0, 400, ""), 401, 1, 1},
		// Neither cuts nor puts.
		{edit(3, 0, ""), 2, 2, 2},
		{edit(3, 0, ""), 3, 3, 3},
		{edit(3, 0, ""), 4, 4, 4},
		// Puts as much as it cuts, and less.
		{edit(3, 2, "ab"), 3, 3, 5},
		{edit(3, 2, "ab"), 4, 3, 5},
		{edit(3, 2, "ab"), 5, 5, 5},
		{edit(3, 2, "ab"), 6, 6, 6},
		{edit(3, 4, "a"), 3, 3, 4},
		{edit(3, 4, "a"), 6, 3, 4},
		{edit(3, 4, "a"), 7, 4, 4},
		{edit(3, 4, "a"), 8, 5, 5},
		// What is put need not be a text.
		{edit(3, 1, "\xff\xfe"), 3, 3, 5},
		{edit(3, 1, "\xff\xfe"), 4, 5, 5},
	}
	for _, x := range list {
		checkPlaceTo(t, x.p, false, x.e, x.left)
		checkPlaceTo(t, x.p, true, x.e, x.right)
		checkMovedPlace(t, x.p, x.e)
	}
}

func TestPositionsKeepTheirOrder(t *testing.T) {
	for _, e := range gridEdits() {
		for q := -1; q < 14; q++ {
			checkMovedPlace(t, q, e)
			if !modelSmall(e, q) {
				continue
			}
			left, right := impl.PosMove(q, false, e), impl.PosMove(q, true, e)
			if left > right {
				t.Fatalf("%s moves %d to %d, and to %d with right", editText(e), q, left, right)
			}
			for p := range q {
				if impl.PosMove(p, false, e) > left || impl.PosMove(p, true, e) > right {
					t.Fatalf("%s changes the order of %d and %d", editText(e), p, q)
				}
			}
		}
	}
}

func TestPositionsOutsideAnEditAreRestored(t *testing.T) {
	for _, text := range textsUpTo(4, "a", "\u20ac") {
		for _, e := range someEdits(text, "", "X", "\u00e9Y", text) {
			back, ok := impl.EditBack([]byte(text), e)
			if !ok {
				t.Fatalf("%s has no inverse for %q", editText(e), text)
			}
			for p := range len(text) + 1 {
				checkRestored(t, p, e, back)
			}
		}
	}
}

// checkRestored takes a position along with an edit and back again.
func checkRestored(t *testing.T, p int, e impl.Edit, back impl.Edit) {
	t.Helper()
	for _, right := range []bool{false, true} {
		// At the edges themselves, it depends on the side.
		outside := p < e.At || p > e.At+e.Cut || p == e.At && !right || p == e.At+e.Cut && right
		if got := impl.PosMove(impl.PosMove(p, right, e), right, back); outside && got != p {
			t.Fatalf("%s and %s move %d to %d", editText(e), editText(back), p, got)
		}
	}
}

func TestSpansAtTheEdgesOfAnEdit(t *testing.T) {
	both, put, cut, none := edit(3, 2, "abc"), edit(3, 0, "abc"), edit(3, 2, ""), edit(3, 0, "")
	list := []struct {
		i, j  int
		e     impl.Edit
		wantI int
		wantJ int
	}{
		// Empty spans.
		{2, 2, both, 2, 2}, {3, 3, both, 6, 6}, {4, 4, both, 6, 6}, {5, 5, both, 6, 6}, {6, 6, both, 7, 7}, {0, 0, both, 0, 0},
		{2, 2, put, 2, 2}, {3, 3, put, 6, 6}, {4, 4, put, 7, 7},
		{2, 2, cut, 2, 2}, {3, 3, cut, 3, 3}, {4, 4, cut, 3, 3}, {5, 5, cut, 3, 3}, {6, 6, cut, 4, 4},
		{2, 2, none, 2, 2}, {3, 3, none, 3, 3}, {4, 4, none, 4, 4},
		{0, 0, edit(0, 0, "ab"), 2, 2}, {0, 0, edit(0, 0, ""), 0, 0},
		// That end at either edge, or before it.
		{0, 2, both, 0, 2}, {0, 3, both, 0, 3}, {0, 5, both, 0, 6}, {0, 6, both, 0, 7},
		{0, 3, put, 0, 3}, {0, 4, put, 0, 7},
		{0, 3, cut, 0, 3}, {0, 5, cut, 0, 3}, {0, 6, cut, 0, 4},
		// That begin at either edge, or after it.
		{3, 9, both, 6, 10}, {5, 9, both, 6, 10}, {6, 9, both, 7, 10}, {2, 9, both, 2, 10},
		{3, 9, put, 6, 12}, {4, 9, put, 7, 12}, {2, 9, put, 2, 12},
		{3, 9, cut, 3, 7}, {5, 9, cut, 3, 7}, {6, 9, cut, 4, 7},
		// That begin or end within it.
		{0, 4, both, 0, 3}, {4, 9, both, 6, 10}, {0, 4, cut, 0, 3}, {4, 9, cut, 3, 7},
		// That lie within it.
		{3, 5, both, 6, 6}, {3, 4, both, 6, 6}, {4, 5, both, 6, 6}, {3, 5, cut, 3, 3}, {3, 4, cut, 3, 3}, {4, 5, cut, 3, 3},
		{3, 6, edit(2, 6, "xy"), 4, 4}, {2, 7, edit(2, 6, "xy"), 4, 4}, {3, 8, edit(2, 6, "xy"), 4, 4}, {0, 400, edit(0, 400, "z"), 1, 1},
		// That hold it.
		{2, 6, both, 2, 7}, {1, 9, both, 1, 10}, {2, 4, put, 2, 7}, {2, 6, cut, 2, 4}, {2, 4, none, 2, 4},
		// An edit that changes nothing leaves a span of a byte on either side of it as it is.
		{3, 4, none, 3, 4}, {2, 3, none, 2, 3},
		// The greatest positions.
		{0, 800, both, 0, 801}, {800, 800, both, 801, 801}, {799, 800, cut, 797, 798},
		// J before I.
		{1, 0, both, -1, -1}, {4, 3, both, -1, -1}, {5, 3, both, -1, -1}, {9, 8, both, -1, -1}, {6, 2, both, -1, -1}, {800, 0, both, -1, -1}, {4, 3, none, -1, -1},
	}
	for _, x := range list {
		checkSpanTo(t, x.i, x.j, x.e, x.wantI, x.wantJ)
		checkMovedSpan(t, x.i, x.j, x.e)
	}
}

func TestAllSpans(t *testing.T) {
	for _, e := range gridEdits() {
		for i := -1; i < 12; i++ {
			for j := -1; j < 12; j++ {
				checkMovedSpan(t, i, j, e)
			}
		}
	}
}

func TestMovedEdits(t *testing.T) {
	by := edit(3, 2, "abc")
	list := [][3]impl.Edit{
		{edit(0, 0, "z"), by, edit(0, 0, "z")},
		{edit(2, 0, "z"), by, edit(2, 0, "z")},
		{edit(3, 0, "z"), by, edit(6, 0, "z")},
		{edit(4, 0, "z"), by, edit(6, 0, "z")},
		{edit(5, 0, "z"), by, edit(6, 0, "z")},
		{edit(6, 0, "z"), by, edit(7, 0, "z")},
		{edit(0, 3, "z"), by, edit(0, 3, "z")},
		{edit(0, 4, "z"), by, edit(0, 3, "z")},
		{edit(0, 5, "z"), by, edit(0, 6, "z")},
		{edit(2, 4, "z"), by, edit(2, 5, "z")},
		{edit(4, 4, "z"), by, edit(6, 3, "z")},
		// What they cut is gone.
		{edit(3, 2, "z"), by, edit(6, 0, "z")},
		{edit(3, 1, ""), by, edit(6, 0, "")},
		{edit(4, 1, "z"), edit(0, 9, ""), edit(0, 0, "z")},
		{edit(0, 400, "z"), edit(0, 400, "\u00e9"), edit(2, 0, "z")},
		// What is put need not be a text.
		{edit(1, 1, "\xff"), edit(0, 1, "\xfe\xfe"), edit(2, 1, "\xff")},
		// No slices at all.
		{{}, {}, {}},
		{{}, edit(0, 0, "ab"), edit(2, 0, "")},
	}
	for _, x := range list {
		checkMoveTo(t, x[0], x[1], x[2])
		checkMove(t, x[0], x[1])
	}
	for _, e := range gridEdits() {
		for _, by := range gridEdits() {
			checkMove(t, e, by)
		}
	}
}

// An edit that was valid cuts whole code points of the text after another edit, too.
func TestMovedEditsStayValid(t *testing.T) {
	for _, text := range textsUpTo(3, "a", "\u00e9", "\u20ac") {
		all := someEdits(text, "", "X", "\U0001f642\u00e9")
		for _, e := range all {
			for _, by := range all {
				checkStaysValid(t, text, e, by)
			}
		}
	}
	random := rand.New(rand.NewSource(61))
	for range 3000 {
		text := textOf(randomRope(random, 200))
		checkStaysValid(t, text, randomEdit(random, text, 100), randomEdit(random, text, 100))
	}
}

func checkStaysValid(t *testing.T, text string, e impl.Edit, by impl.Edit) {
	t.Helper()
	checkMove(t, e, by)
	after, ok := impl.EditDo([]byte(text), by)
	moved, moves := impl.EditMove(e, by)
	if !ok || !moves || !impl.EditOk(after, moved) {
		t.Fatalf("%s is valid for %q, but after %s it is %s, %v", editText(e), text, editText(by), editText(moved), moves)
	}
}

// Only the length can make an edit invalid that was valid before.
func TestMovedEditsThatMakeTheTextTooLong(t *testing.T) {
	text := strings.Repeat("\u00e9", 199)
	e, by := edit(2, 2, "abcd"), edit(10, 0, "XY")
	after, ok := impl.EditDo([]byte(text), by)
	moved, moves := impl.EditMove(e, by)
	if !ok || !moves || !sameEdit(moved, e) {
		t.Fatalf("EditMove %s, %v", editText(moved), moves)
	}
	if impl.EditOk(after, moved) || !impl.EditOk(after, edit(moved.At, moved.Cut, "ab")) {
		t.Errorf("%s is valid for a text of %d bytes", editText(moved), len(after))
	}
}

func TestMovesByLists(t *testing.T) {
	checkMovesTo(t, edit(3, 0, ""), []impl.Edit{edit(3, 0, "x"), edit(0, 2, "")}, edit(2, 0, ""), true)
	checkMovesTo(t, edit(3, 2, "z"), []impl.Edit{edit(3, 0, "x"), edit(0, 2, ""), edit(3, 1, "yy")}, edit(2, 3, "z"), true)
	// The order of the list counts.
	checkMovesTo(t, edit(3, 0, "z"), []impl.Edit{edit(0, 3, ""), edit(0, 0, "xx")}, edit(2, 0, "z"), true)
	checkMovesTo(t, edit(3, 0, "z"), []impl.Edit{edit(0, 0, "xx"), edit(0, 3, "")}, edit(2, 0, "z"), true)
	checkMovesTo(t, edit(1, 0, "z"), []impl.Edit{edit(2, 0, "xx"), edit(0, 1, "")}, edit(0, 0, "z"), true)
	checkMovesTo(t, edit(1, 1, "z"), []impl.Edit{edit(0, 2, ""), edit(0, 0, "xx")}, edit(2, 0, "z"), true)
	checkMovesTo(t, edit(1, 1, "z"), []impl.Edit{edit(0, 0, "xx"), edit(0, 2, "")}, edit(1, 1, "z"), true)
	// No edits.
	checkMovesTo(t, edit(3, 2, "z"), nil, edit(3, 2, "z"), true)
	checkMovesTo(t, edit(400, 400, "\xff"), []impl.Edit{}, edit(400, 400, "\xff"), true)
	checkMovesTo(t, impl.Edit{}, nil, impl.Edit{}, true)
	all := gridEdits()
	random := rand.New(rand.NewSource(62))
	for range 3000 {
		var list []impl.Edit
		for range random.Intn(6) {
			list = append(list, all[random.Intn(len(all))])
		}
		checkMoves(t, all[random.Intn(len(all))], list)
	}
}

func TestMovesByListsWithAnEditThatIsNotSmall(t *testing.T) {
	wrong := []impl.Edit{edit(-1, 0, ""), edit(401, 0, ""), edit(0, -1, ""), edit(0, 401, ""), edit(0, 0, strings.Repeat("a", 401)), edit(math.MinInt, 0, ""), edit(0, math.MaxInt, ""), edit(math.MaxInt, math.MaxInt, "")}
	good := []impl.Edit{edit(1, 1, "ab"), edit(0, 0, "x"), edit(4, 2, "")}
	for _, w := range wrong {
		for n := range len(good) + 1 {
			list := slices.Insert(slices.Clone(good), n, w)
			checkMovesTo(t, edit(3, 2, "z"), list, impl.Edit{}, false)
			checkMoves(t, edit(3, 2, "z"), list)
		}
		checkMovesTo(t, edit(3, 2, "z"), []impl.Edit{w}, impl.Edit{}, false)
		checkMovesTo(t, w, nil, impl.Edit{}, false)
		checkMovesTo(t, w, []impl.Edit{}, impl.Edit{}, false)
		checkMovesTo(t, w, good, impl.Edit{}, false)
		checkMovesTo(t, w, []impl.Edit{w}, impl.Edit{}, false)
	}
}

// What moves an edit beyond the small ones may only come last.
func TestEditsThatAreMovedTooFar(t *testing.T) {
	full := strings.Repeat("a", 400)
	far, wide := edit(0, 0, full), edit(1, 0, full)
	checkMovesTo(t, edit(400, 400, "z"), []impl.Edit{far}, edit(800, 400, "z"), true)
	checkMovesTo(t, edit(400, 400, "z"), []impl.Edit{far, edit(0, 0, "")}, impl.Edit{}, false)
	checkMovesTo(t, edit(0, 400, "z"), []impl.Edit{wide}, edit(0, 800, "z"), true)
	checkMovesTo(t, edit(0, 400, "z"), []impl.Edit{wide, edit(0, 400, "")}, impl.Edit{}, false)
	checkMovesTo(t, edit(0, 0, "z"), []impl.Edit{far}, edit(400, 0, "z"), true)
	checkMovesTo(t, edit(0, 0, "z"), []impl.Edit{far, edit(0, 1, "")}, edit(399, 0, "z"), true)
	checkMovesTo(t, edit(1, 0, "z"), []impl.Edit{far}, edit(401, 0, "z"), true)
	checkMovesTo(t, edit(1, 0, "z"), []impl.Edit{far, edit(0, 1, "")}, impl.Edit{}, false)
	checkMovesTo(t, edit(0, 2, "z"), []impl.Edit{edit(1, 0, full[:399]), edit(0, 1, "")}, impl.Edit{}, false)
	checkMovesTo(t, edit(0, 2, "z"), []impl.Edit{edit(1, 0, full[:398]), edit(0, 1, "")}, edit(0, 399, "z"), true)
	for _, list := range [][]impl.Edit{{far, far}, {far, wide}, {wide, far}, {wide, wide}, {far, edit(0, 400, "")}} {
		for _, n := range []int{0, 1, 2, 399, 400} {
			checkMoves(t, edit(n, 0, "z"), list)
			checkMoves(t, edit(0, n, "z"), list)
			checkMoves(t, edit(n, 400-n, "z"), list)
		}
	}
}

func TestHitsAtTheEdgesOfASpan(t *testing.T) {
	list := []struct {
		e    impl.Edit
		i, j int
		want bool
	}{
		// A cut before the span, one that touches it, and one of its first byte.
		{edit(0, 2, "x"), 3, 6, false}, {edit(1, 2, "x"), 3, 6, false}, {edit(1, 3, "x"), 3, 6, true}, {edit(3, 1, "x"), 3, 6, true},
		// A cut of its last byte, one that touches it, and one after it.
		{edit(5, 1, "x"), 3, 6, true}, {edit(5, 9, "x"), 3, 6, true}, {edit(6, 1, "x"), 3, 6, false}, {edit(7, 1, "x"), 3, 6, false},
		// A cut inside, of the whole span, and of more.
		{edit(4, 1, ""), 3, 6, true}, {edit(3, 3, ""), 3, 6, true}, {edit(0, 9, ""), 3, 6, true},
		// Insertions before, at the start, inside, at the end and after.
		{edit(2, 0, "x"), 3, 6, false}, {edit(3, 0, "x"), 3, 6, false}, {edit(4, 0, "x"), 3, 6, true}, {edit(5, 0, "x"), 3, 6, true}, {edit(6, 0, "x"), 3, 6, false}, {edit(7, 0, "x"), 3, 6, false},
		{edit(3, 0, "x"), 3, 4, false}, {edit(4, 0, "x"), 3, 4, false},
		// An edit that puts nothing either is one, too.
		{edit(4, 0, ""), 3, 6, true}, {edit(3, 0, ""), 3, 6, false}, {edit(6, 0, ""), 3, 6, false},
		// An empty span, and J before I.
		{edit(4, 0, "x"), 4, 4, false}, {edit(3, 2, "x"), 4, 4, false}, {edit(3, 9, "x"), 4, 4, false}, {edit(4, 1, "x"), 4, 4, false}, {edit(0, 0, "x"), 0, 0, false},
		{edit(4, 0, "x"), 6, 3, false}, {edit(0, 9, "x"), 6, 3, false}, {edit(3, 1, "x"), 4, 3, false},
		// The greatest positions.
		{edit(400, 400, "x"), 799, 800, true}, {edit(400, 399, "x"), 799, 800, false}, {edit(400, 0, "x"), 0, 800, true}, {edit(0, 1, "x"), 0, 800, true}, {edit(400, 400, "x"), 800, 800, false},
	}
	for _, x := range list {
		checkHitsIs(t, x.e, x.i, x.j, x.want)
		checkHits(t, x.e, x.i, x.j)
	}
	for _, e := range gridEdits() {
		for i := -1; i < 11; i++ {
			for j := -1; j < 11; j++ {
				checkHits(t, e, i, j)
			}
		}
	}
}

func TestEditsThatAreApart(t *testing.T) {
	e := edit(3, 2, "abc")
	list := []struct {
		a, b impl.Edit
		want bool
	}{
		// That touch, and that are one byte apart.
		{e, edit(5, 0, "x"), false}, {e, edit(6, 0, "x"), true}, {e, edit(5, 1, "x"), false}, {e, edit(6, 1, ""), true},
		{e, edit(3, 0, "x"), false}, {e, edit(2, 0, "x"), true}, {e, edit(1, 2, "x"), false}, {e, edit(0, 2, ""), true},
		// That overlap, or lie in each other.
		{e, edit(4, 0, ""), false}, {e, edit(4, 9, ""), false}, {e, edit(0, 4, ""), false}, {e, edit(0, 9, ""), false}, {e, e, false}, {e, edit(3, 1, ""), false}, {e, edit(4, 1, ""), false},
		// That cut nothing, or neither cut nor put.
		{edit(3, 0, "x"), edit(3, 0, "x"), false}, {edit(3, 0, "x"), edit(4, 0, "x"), true}, {edit(3, 0, ""), edit(3, 0, ""), false}, {edit(3, 0, ""), edit(4, 0, ""), true}, {impl.Edit{}, impl.Edit{}, false}, {impl.Edit{}, edit(1, 0, ""), true},
		// How much is put does not count.
		{edit(0, 0, "abcdefghi"), edit(1, 0, ""), true}, {edit(1, 0, "abcdefghi"), edit(0, 1, ""), false},
		// The greatest edits.
		{edit(0, 399, ""), edit(400, 400, ""), true}, {edit(0, 400, ""), edit(400, 400, ""), false}, {edit(0, 0, ""), edit(400, 400, strings.Repeat("a", 400)), true},
	}
	for _, x := range list {
		checkApartIs(t, x.a, x.b, x.want)
		checkApart(t, x.a, x.b)
	}
	for _, a := range gridEdits() {
		for _, b := range gridEdits() {
			checkApart(t, a, b)
		}
	}
}

func TestEditsThatAreApartCommute(t *testing.T) {
	found := 0
	for _, text := range textsUpTo(4, "a", "\u00e9") {
		all := someEdits(text, "", "X", "\u20acY")
		for _, a := range all {
			for _, b := range all {
				if impl.EditsApart(a, b) {
					checkCommute(t, text, a, b)
					found++
				}
			}
		}
	}
	random := rand.New(rand.NewSource(63))
	for range 3000 {
		text := textOf(randomRope(random, 200))
		a, b := randomEdit(random, text, 100), randomEdit(random, text, 100)
		if impl.EditsApart(a, b) {
			checkCommute(t, text, a, b)
			found++
		}
	}
	if found < 1000 {
		t.Errorf("only %d edits are apart", found)
	}
}

func checkCommute(t *testing.T, text string, a impl.Edit, b impl.Edit) {
	t.Helper()
	moved, ok := impl.EditMove(b, a)
	other, otherOk := impl.EditMove(a, b)
	if !ok || !otherOk || moved.Cut != b.Cut || other.Cut != a.Cut {
		t.Fatalf("%s and %s are moved to %s and %s", editText(a), editText(b), editText(other), editText(moved))
	}
	first, count := impl.EditsDo([]byte(text), []impl.Edit{a, moved})
	second, otherCount := impl.EditsDo([]byte(text), []impl.Edit{b, other})
	if count != 2 || otherCount != 2 || string(first) != string(second) {
		t.Fatalf("%s and %s make %q of %q, and %q in the other order", editText(a), editText(b), first, text, second)
	}
	if put := edit(a.At, len(a.Put), ""); !impl.EditsApart(moved, put) {
		t.Fatalf("%s is apart from %s, but then not from what it has put", editText(b), editText(a))
	}
}

func TestSelectionsOfATextAreAtBoundaries(t *testing.T) {
	for _, text := range append(textsUpTo(2, "a", "\u00e9", "\u20ac", "\U0001f642"), "", strings.Repeat("a", 400), strings.Repeat("\u00e9", 200)) {
		places := wantBoundaries([]byte(text))
		some := allOffsets(text)
		if len(text) > 20 {
			some = append(farNumbers(), 3)
		}
		for _, from := range some {
			for _, to := range some {
				checkSelOk(t, text, from, to, slices.Contains(places, from) && slices.Contains(places, to))
			}
		}
	}
	// One end is within a code point.
	checkSelOk(t, "a\u20acb", 1, 4, true)
	checkSelOk(t, "a\u20acb", 4, 1, true)
	checkSelOk(t, "a\u20acb", 2, 4, false)
	checkSelOk(t, "a\u20acb", 4, 2, false)
	checkSelOk(t, "a\u20acb", 1, 3, false)
	checkSelOk(t, "a\u20acb", 3, 1, false)
	checkSelOk(t, "a\u20acb", 3, 3, false)
	checkSelOk(t, "a\u20acb", 2, 3, false)
	// One end is outside.
	checkSelOk(t, "ab", 0, 2, true)
	checkSelOk(t, "ab", 3, 2, false)
	checkSelOk(t, "ab", 2, 3, false)
	checkSelOk(t, "ab", -1, 2, false)
	checkSelOk(t, "ab", 0, -1, false)
	checkSelOk(t, "", 0, 0, true)
	checkSelOk(t, "", 0, 1, false)
	for _, wrong := range wrongTexts() {
		for _, n := range []int{-1, 0, 1, 2, len(wrong)} {
			checkSelOk(t, wrong, 0, n, false)
			checkSelOk(t, wrong, n, n, false)
		}
	}
	for _, n := range farNumbers() {
		for _, m := range farNumbers() {
			checkSelOk(t, "a", n, m, (n == 0 || n == 1) && (m == 0 || m == 1))
		}
	}
}

func TestSelectionsAtTheEdgesOfAnEdit(t *testing.T) {
	list := []struct {
		from, to         int
		e                impl.Edit
		wantFrom, wantTo int
		ownFrom, ownTo   int
	}{
		// Empty.
		{2, 2, edit(3, 2, "abc"), 2, 2, 2, 2},
		{3, 3, edit(3, 2, "abc"), 3, 3, 6, 6},
		{4, 4, edit(3, 2, "abc"), 3, 3, 6, 6},
		{5, 5, edit(3, 2, "abc"), 6, 6, 6, 6},
		{6, 6, edit(3, 2, "abc"), 7, 7, 7, 7},
		{3, 3, edit(3, 0, "abc"), 3, 3, 6, 6},
		{3, 3, edit(3, 2, ""), 3, 3, 3, 3},
		{5, 5, edit(3, 2, ""), 3, 3, 3, 3},
		{3, 3, edit(3, 0, ""), 3, 3, 3, 3},
		{0, 0, edit(0, 0, "a"), 0, 0, 1, 1},
		// Forward.
		{3, 5, edit(3, 2, "abc"), 3, 6, 6, 6},
		{3, 4, edit(3, 2, "abc"), 3, 6, 6, 6},
		{4, 5, edit(3, 2, "abc"), 3, 6, 6, 6},
		{2, 3, edit(3, 2, "abc"), 2, 6, 2, 6},
		{5, 6, edit(3, 2, "abc"), 6, 7, 6, 7},
		{2, 6, edit(3, 2, "abc"), 2, 7, 2, 7},
		{3, 5, edit(3, 0, "x"), 3, 6, 4, 6},
		{3, 5, edit(5, 0, "x"), 3, 6, 3, 6},
		{3, 5, edit(4, 0, "x"), 3, 6, 3, 6},
		{3, 5, edit(3, 2, ""), 3, 3, 3, 3},
		// Backward.
		{5, 3, edit(3, 2, "abc"), 6, 3, 6, 6},
		{4, 3, edit(3, 2, "abc"), 6, 3, 6, 6},
		{5, 4, edit(3, 2, "abc"), 6, 3, 6, 6},
		{3, 2, edit(3, 2, "abc"), 6, 2, 6, 2},
		{6, 5, edit(3, 2, "abc"), 7, 6, 7, 6},
		{6, 2, edit(3, 2, "abc"), 7, 2, 7, 2},
		{5, 3, edit(3, 0, "x"), 6, 3, 6, 4},
		{5, 3, edit(5, 0, "x"), 6, 3, 6, 3},
		{5, 3, edit(3, 2, ""), 3, 3, 3, 3},
		// The greatest positions.
		{800, 0, edit(0, 0, "x"), 801, 0, 801, 1},
		{800, 800, edit(400, 400, ""), 400, 400, 400, 400},
		{0, 800, edit(0, 400, "x"), 0, 401, 1, 401},
	}
	for _, x := range list {
		checkSelTo(t, x.from, x.to, x.e, false, x.wantFrom, x.wantTo)
		checkSelTo(t, x.from, x.to, x.e, true, x.ownFrom, x.ownTo)
		checkMovedSel(t, x.from, x.to, x.e)
	}
	for _, e := range gridEdits() {
		for from := -1; from < 11; from++ {
			for to := -1; to < 11; to++ {
				checkMovedSel(t, from, to, e)
			}
		}
	}
}

func TestSelectionsStayAtBoundaries(t *testing.T) {
	for _, text := range textsUpTo(3, "a", "\u00e9", "\u20ac") {
		places := wantBoundaries([]byte(text))
		for _, e := range someEdits(text, "", "X", "\U0001f642\u00e9") {
			for _, from := range places {
				for _, to := range places {
					checkSelStays(t, text, impl.Sel{From: from, To: to}, e)
				}
			}
		}
	}
	random := rand.New(rand.NewSource(64))
	for range 3000 {
		text := textOf(randomRope(random, 300))
		s := impl.Sel{From: randomPlace(random, text), To: randomPlace(random, text)}
		checkSelStays(t, text, s, randomEdit(random, text, 100))
	}
}

// checkSelStays asserts that a selection is at boundaries after the edit, too, and does not change its direction.
func checkSelStays(t *testing.T, text string, s impl.Sel, e impl.Edit) {
	t.Helper()
	checkMovedSel(t, s.From, s.To, e)
	after, ok := impl.EditDo([]byte(text), e)
	if !ok {
		t.Fatalf("%s is not valid for %q", editText(e), text)
	}
	for _, own := range []bool{false, true} {
		moved := impl.SelMove(s, e, own)
		if !impl.SelOk(after, moved) || s.From <= s.To && moved.From > moved.To || s.From >= s.To && moved.From < moved.To {
			t.Fatalf("%s moves %v to %v of %q, own %v", editText(e), s, moved, after, own)
		}
	}
}

func TestMovesWithOneFieldThatIsNotSmall(t *testing.T) {
	full := strings.Repeat("a", 400)
	wide := strings.Repeat("\u00e9", 200)
	for _, e := range []impl.Edit{edit(400, 0, ""), edit(0, 400, ""), edit(0, 0, full), edit(400, 400, full), edit(0, 400, wide)} {
		checkSmall(t, e)
	}
	for _, e := range []impl.Edit{edit(401, 0, ""), edit(0, 401, ""), edit(0, 0, full+"a"), edit(0, 0, wide+"a"), edit(-1, 0, ""), edit(-1, 1, ""), edit(0, -1, ""), edit(1, -1, ""), edit(math.MaxInt, 0, ""), edit(0, math.MaxInt, ""), edit(math.MinInt, 0, ""), edit(0, math.MinInt, ""), edit(math.MaxInt, math.MaxInt, ""), edit(1, math.MaxInt, ""), edit(math.MinInt, math.MaxInt, ""), edit(math.MinInt, math.MinInt, "")} {
		checkNotSmall(t, e)
	}
}

func checkSmall(t *testing.T, e impl.Edit) {
	t.Helper()
	for _, p := range []int{0, 1, 399, 400, 401, 799, 800} {
		for _, right := range []bool{false, true} {
			if impl.PosMove(p, right, e) < 0 {
				t.Fatalf("PosMove of %d rejects %s", p, editText(e))
			}
		}
		if i, j := impl.SpanMove(p, p, e); i < 0 || j < 0 {
			t.Fatalf("SpanMove of %d rejects %s", p, editText(e))
		}
	}
	if _, ok := impl.EditMove(e, e); !ok {
		t.Fatalf("EditMove rejects %s", editText(e))
	}
	if _, ok := impl.EditMoves(e, []impl.Edit{{}}); !ok {
		t.Fatalf("EditMoves rejects %s", editText(e))
	}
}

func checkNotSmall(t *testing.T, e impl.Edit) {
	t.Helper()
	for _, p := range []int{-1, 0, 1, 400, 401, 800, 801} {
		checkPlaceTo(t, p, false, e, -1)
		checkPlaceTo(t, p, true, e, -1)
		for _, q := range []int{-1, 0, 1, 400, 401, 800, 801} {
			checkSpanTo(t, p, q, e, -1, -1)
			checkHitsIs(t, e, p, q, false)
			checkSelTo(t, p, q, e, false, 0, 0)
			checkSelTo(t, p, q, e, true, 0, 0)
		}
	}
	for _, other := range []impl.Edit{{}, edit(3, 2, "abc"), edit(400, 400, "abc"), edit(200, 0, "abc"), e} {
		checkNoMove(t, e, other)
		checkNoMove(t, other, e)
		checkApartIs(t, e, other, false)
	}
}

func TestMovesOfPositionsThatAreNotSmall(t *testing.T) {
	for _, e := range []impl.Edit{{}, edit(3, 2, "abc"), edit(0, 0, "a"), edit(400, 400, ""), edit(400, 0, "")} {
		for _, wrong := range []int{-1, -2, -400, 801, 802, math.MaxInt, math.MaxInt - 1, math.MinInt, math.MinInt + 1} {
			checkPlaceTo(t, wrong, false, e, -1)
			checkPlaceTo(t, wrong, true, e, -1)
			for _, p := range []int{0, 3, 4, 400, 800, wrong} {
				checkSpanTo(t, wrong, p, e, -1, -1)
				checkSpanTo(t, p, wrong, e, -1, -1)
				checkHitsIs(t, e, wrong, p, false)
				checkHitsIs(t, e, p, wrong, false)
				for _, own := range []bool{false, true} {
					checkSelTo(t, wrong, p, e, own, 0, 0)
					checkSelTo(t, p, wrong, e, own, 0, 0)
				}
			}
		}
	}
}

func TestMovesOfExtremeNumbers(t *testing.T) {
	full := strings.Repeat("a", 400)
	for _, at := range farNumbers() {
		for _, cut := range farNumbers() {
			for _, put := range []string{"", "ab", full, full + "a"} {
				checkFarMoves(t, edit(at, cut, put))
			}
		}
	}
}

func checkFarMoves(t *testing.T, e impl.Edit) {
	t.Helper()
	for _, i := range farNumbers() {
		checkMovedPlace(t, i, e)
		checkMove(t, e, edit(i, 1, "abc"))
		checkMove(t, edit(1, i, "abc"), e)
		checkMoves(t, edit(i, 0, ""), []impl.Edit{e, edit(0, 1, "")})
		checkApart(t, e, edit(i, 1, ""))
		checkApart(t, e, edit(1, i, ""))
		for _, j := range farNumbers() {
			checkMovedSpan(t, i, j, e)
			checkHits(t, e, i, j)
			checkMovedSel(t, i, j, e)
		}
	}
}

func TestMovedEditsShareNoMemory(t *testing.T) {
	lists := map[string]func(by impl.Edit) []impl.Edit{
		"no edits":       func(by impl.Edit) []impl.Edit { return nil },
		"one edit":       func(by impl.Edit) []impl.Edit { return []impl.Edit{by} },
		"several edits":  func(by impl.Edit) []impl.Edit { return []impl.Edit{by, edit(0, 1, "X"), by} },
		"an invalid one": func(by impl.Edit) []impl.Edit { return []impl.Edit{by, edit(-1, 0, "")} },
	}
	for _, put := range []string{"", "X", "a\u20ac\xff", strings.Repeat("a", 400), strings.Repeat("a", 401)} {
		for _, other := range []string{"", "XY", strings.Repeat("b", 401)} {
			e, memory := roomyEdit(3, 2, put)
			by, otherMemory := roomyEdit(1, 3, other)
			checkOwnRopes(t, "EditMove", func() []impl.Rope {
				got, _ := impl.EditMove(e, by)
				return []impl.Rope{bytesAsRope(got.Put)}
			}, memory, otherMemory)
			for name, list := range lists {
				e, memory := roomyEdit(3, 2, put)
				by, otherMemory := roomyEdit(1, 3, other)
				checkOwnRopes(t, "EditMoves by "+name, func() []impl.Rope {
					got, _ := impl.EditMoves(e, list(by))
					return []impl.Rope{bytesAsRope(got.Put)}
				}, memory, otherMemory)
			}
		}
	}
	e, memory := roomyEdit(3, 2, "abc")
	checkOwnRopes(t, "EditMove by itself", func() []impl.Rope {
		got, _ := impl.EditMove(e, e)
		return []impl.Rope{bytesAsRope(got.Put)}
	}, memory)
}

func TestListsThatMoveAreNotModified(t *testing.T) {
	list := []impl.Edit{edit(0, 1, "X"), edit(1, 0, "\u00e9"), edit(2, 0, "Z"), edit(-1, 7, "\xff"), edit(0, 0, "")}
	before := editTexts(list)
	for n := range len(list) + 1 {
		// The edits behind the end of the list move nothing.
		want, ok := modelMoves(edit(1, 2, "ab"), list[:n])
		checkMovesTo(t, edit(1, 2, "ab"), list[:n], want, ok)
		for _, e := range list {
			impl.EditMoves(e, list[:n])
		}
	}
	if after := editTexts(list); after != before {
		t.Errorf("%s became %s", before, after)
	}
}

func TestMovesModifyNothing(t *testing.T) {
	var edits []impl.Edit
	var memory []impl.Rope
	for _, x := range []impl.Edit{edit(0, 0, "ab"), edit(3, 2, "\u20ac\xff"), edit(2, 3, ""), edit(-1, 0, "a"), edit(0, 0, strings.Repeat("a", 401))} {
		e, r := roomyEdit(x.At, x.Cut, string(x.Put))
		edits, memory = append(edits, e), append(memory, r)
	}
	text := roomyRope("ab\u00e9")
	before := wholeRopes(append(memory, text))
	for _, e := range edits {
		for _, by := range edits {
			impl.EditMove(e, by)
			impl.EditMoves(e, []impl.Edit{by, e, by})
			impl.EditsApart(e, by)
		}
		for i := -1; i < 7; i++ {
			for j := -1; j < 7; j++ {
				s := impl.Sel{From: i, To: j}
				impl.PosMove(i, j%2 == 0, e)
				impl.SpanMove(i, j, e)
				impl.EditHits(e, i, j)
				impl.SelOk(text.Chunks[0].Data, s)
				impl.SelMove(s, e, j%2 == 0)
			}
		}
	}
	if after := wholeRopes(append(memory, text)); after != before {
		t.Errorf("%s became %s", before, after)
	}
	if impl.SelOk(text.Chunks[0].Data[:2], impl.Sel{From: 4}) || !impl.SelOk(text.Chunks[0].Data[:2], impl.Sel{From: 2}) {
		t.Error("bytes behind the text are read")
	}
}
