package tests

import (
	"bytes"
	"fmt"
	"math"
	"math/rand"
	"slices"
	"strings"
	"testing"

	"loop.example/g00677/impl"
)

func edits(list ...impl.Edit) []impl.Edit {
	return list
}

func stack(undo []impl.Edit, redo []impl.Edit) impl.Stack {
	return impl.Stack{Undo: undo, Redo: redo}
}

func stackText(s impl.Stack) string {
	return "undo " + editTexts(s.Undo) + " redo " + editTexts(s.Redo)
}

func sameStack(a impl.Stack, b impl.Stack) bool {
	return slices.EqualFunc(a.Undo, b.Undo, sameEdit) && slices.EqualFunc(a.Redo, b.Redo, sameEdit)
}

// half is Undo or Redo of a stack.
func half(s impl.Stack, redo bool) []impl.Edit {
	if redo {
		return s.Redo
	}
	return s.Undo
}

// halves puts the first list into Redo if redo is true, and into Undo otherwise.
func halves(redo bool, list []impl.Edit, other []impl.Edit) impl.Stack {
	if redo {
		return stack(other, list)
	}
	return stack(list, other)
}

// modelStack follows the document: whether a stack and the edits beside it are valid.
func modelStack(s impl.Stack, beside ...impl.Edit) bool {
	for _, e := range slices.Concat(s.Undo, s.Redo, beside) {
		if !modelSmall(e) {
			return false
		}
	}
	return len(s.Undo) <= 6 && len(s.Redo) <= 6
}

// modelLast returns the last six edits of a list and one more.
func modelLast(list []impl.Edit, e impl.Edit) []impl.Edit {
	var out []impl.Edit
	for i, x := range append(slices.Clone(list), e) {
		if i > len(list)-6 {
			out = append(out, x)
		}
	}
	return out
}

func modelPushed(s impl.Stack, back impl.Edit) (impl.Stack, bool) {
	if !modelStack(s, back) {
		return impl.Stack{}, false
	}
	return stack(modelLast(s.Undo, back), nil), true
}

func modelTurned(s impl.Stack, redo bool, back impl.Edit) (impl.Stack, bool) {
	from, onto := half(s, redo), half(s, !redo)
	if !modelStack(s, back) || len(from) == 0 {
		return impl.Stack{}, false
	}
	return halves(redo, from[:len(from)-1], modelLast(onto, back)), true
}

func modelTop(s impl.Stack, redo bool) (impl.Edit, bool) {
	list := half(s, redo)
	if !modelStack(s) || len(list) == 0 {
		return impl.Edit{}, false
	}
	return list[len(list)-1], true
}

func modelMovedStack(s impl.Stack, by impl.Edit) (impl.Stack, bool) {
	if !modelStack(s, by) {
		return impl.Stack{}, false
	}
	var out impl.Stack
	for _, e := range s.Undo {
		moved, _ := modelMove(e, by)
		out.Undo = append(out.Undo, moved)
	}
	for _, e := range s.Redo {
		moved, _ := modelMove(e, by)
		out.Redo = append(out.Redo, moved)
	}
	if !modelStack(out) {
		return impl.Stack{}, false
	}
	return out, true
}

func checkStackOk(t *testing.T, s impl.Stack, want bool) {
	t.Helper()
	if got := impl.StackOk(s); got != want {
		t.Fatalf("StackOk(%s) = %v", stackText(s), got)
	}
}

func checkPushedTo(t *testing.T, s impl.Stack, back impl.Edit, want impl.Stack, wantOk bool) {
	t.Helper()
	if got, ok := impl.StackPush(s, back); ok != wantOk || !sameStack(got, want) {
		t.Fatalf("StackPush(%s, %s) = %s, %v, want %s, %v", stackText(s), editText(back), stackText(got), ok, stackText(want), wantOk)
	}
}

func checkStackMovedTo(t *testing.T, s impl.Stack, by impl.Edit, want impl.Stack, wantOk bool) {
	t.Helper()
	if got, ok := impl.StackMoved(s, by); ok != wantOk || !sameStack(got, want) {
		t.Fatalf("StackMoved(%s, %s) = %s, %v, want %s, %v", stackText(s), editText(by), stackText(got), ok, stackText(want), wantOk)
	}
}

func checkTopIs(t *testing.T, s impl.Stack, redo bool, want impl.Edit, wantOk bool) {
	t.Helper()
	if got, ok := impl.StackTop(s, redo); ok != wantOk || !sameEdit(got, want) {
		t.Fatalf("StackTop(%s, %v) = %s, %v, want %s, %v", stackText(s), redo, editText(got), ok, editText(want), wantOk)
	}
}

func checkTurnedTo(t *testing.T, s impl.Stack, redo bool, back impl.Edit, want impl.Stack, wantOk bool) {
	t.Helper()
	if got, ok := impl.StackTurn(s, redo, back); ok != wantOk || !sameStack(got, want) {
		t.Fatalf("StackTurn(%s, %v, %s) = %s, %v, want %s, %v", stackText(s), redo, editText(back), stackText(got), ok, stackText(want), wantOk)
	}
}

// checkMovedStack compares StackMoved with the model, and with what EditMove makes of each edit.
func checkMovedStack(t *testing.T, s impl.Stack, by impl.Edit) {
	t.Helper()
	want, ok := modelMovedStack(s, by)
	checkStackMovedTo(t, s, by, want, ok)
	for _, redo := range []bool{false, true} {
		for i, e := range half(want, redo) {
			if alone, _ := impl.EditMove(half(s, redo)[i], by); !sameEdit(alone, e) {
				t.Fatalf("EditMove(%s, %s) = %s, but in a stack %s", editText(half(s, redo)[i]), editText(by), editText(alone), editText(e))
			}
		}
	}
}

// checkStack compares every function with the model, with e as back and as by.
func checkStack(t *testing.T, s impl.Stack, e impl.Edit) {
	t.Helper()
	checkStackOk(t, s, modelStack(s))
	want, ok := modelPushed(s, e)
	checkPushedTo(t, s, e, want, ok)
	checkMovedStack(t, s, e)
	for _, redo := range []bool{false, true} {
		top, ok := modelTop(s, redo)
		checkTopIs(t, s, redo, top, ok)
		want, ok := modelTurned(s, redo, e)
		checkTurnedTo(t, s, redo, e, want, ok)
	}
}

// checkRefused asserts that no function that takes an edit returns anything.
func checkRefused(t *testing.T, s impl.Stack, e impl.Edit) {
	t.Helper()
	checkPushedTo(t, s, e, impl.Stack{}, false)
	checkStackMovedTo(t, s, e, impl.Stack{}, false)
	checkTurnedTo(t, s, false, e, impl.Stack{}, false)
	checkTurnedTo(t, s, true, e, impl.Stack{}, false)
}

// checkInvalidStack asserts what every function returns for a stack that is not valid.
func checkInvalidStack(t *testing.T, s impl.Stack) {
	t.Helper()
	checkStackOk(t, s, false)
	checkTopIs(t, s, false, impl.Edit{}, false)
	checkTopIs(t, s, true, impl.Edit{}, false)
	for _, e := range edits(impl.Edit{}, edit(1, 1, "ab"), edit(0, 400, ""), edit(400, 0, "z"), edit(-1, 0, "")) {
		checkRefused(t, s, e)
	}
}

// rowOfEdits are n edits that differ in every field, from one that has the number first.
func rowOfEdits(n int, first int) []impl.Edit {
	var list []impl.Edit
	for k := first; k < first+n; k++ {
		list = append(list, edit(k, k%5, fmt.Sprint("put ", k)))
	}
	return list
}

// editsThatAreNotSmall have one field, or all of them, beyond a limit.
func editsThatAreNotSmall() []impl.Edit {
	long := strings.Repeat("a", 401)
	return edits(edit(401, 0, "a"), edit(-1, 0, "a"), edit(math.MinInt, 0, ""), edit(math.MaxInt, 0, ""),
		edit(0, 401, "a"), edit(5, -1, "a"), edit(400, -400, ""), edit(0, math.MinInt, ""), edit(0, math.MaxInt, ""),
		edit(0, 0, long), edit(400, 400, long), edit(0, 0, strings.Repeat("\u20ac", 2000)),
		edit(-1, -1, long), edit(401, 401, long), edit(math.MaxInt, math.MaxInt, ""), edit(math.MinInt, math.MinInt, ""), edit(math.MinInt, math.MaxInt, ""), edit(math.MaxInt, math.MinInt, ""))
}

// editsThatAreJustSmall have fields at their limits.
func editsThatAreJustSmall() []impl.Edit {
	full := strings.Repeat("a", 400)
	return edits(impl.Edit{}, edit(400, 0, ""), edit(0, 400, ""), edit(0, 0, full), edit(400, 400, ""), edit(400, 400, full), edit(399, 399, full[:399]), edit(0, 0, "\xff"))
}

func TestStackExamples(t *testing.T) {
	s := impl.Stack{}
	all := rowOfEdits(7, 0)
	for n, e := range all {
		checkPushedTo(t, s, e, stack(all[max(0, n-5):n+1], nil), true)
		s, _ = impl.StackPush(s, e)
		checkStackOk(t, s, true)
		checkTopIs(t, s, false, e, true)
		checkTopIs(t, s, true, impl.Edit{}, false)
	}
	if impl.MaxStack != 6 || len(s.Undo) != 6 || !sameEdit(s.Undo[0], all[1]) {
		t.Errorf("after seven pushes: %s", stackText(s))
	}
	checkTurnedTo(t, s, false, edit(9, 1, ""), stack(all[1:6], edits(edit(9, 1, ""))), true)
	checkTurnedTo(t, s, true, edit(9, 1, ""), impl.Stack{}, false)
}

func TestEmptyStacks(t *testing.T) {
	for _, s := range []impl.Stack{{}, {Undo: []impl.Edit{}}, {Redo: []impl.Edit{}}, {Undo: []impl.Edit{}, Redo: []impl.Edit{}}} {
		checkStackOk(t, s, true)
		checkTopIs(t, s, false, impl.Edit{}, false)
		checkTopIs(t, s, true, impl.Edit{}, false)
		for _, e := range editsThatAreJustSmall() {
			checkPushedTo(t, s, e, stack(edits(e), nil), true)
			checkStackMovedTo(t, s, e, impl.Stack{}, true)
			checkTurnedTo(t, s, false, e, impl.Stack{}, false)
			checkTurnedTo(t, s, true, e, impl.Stack{}, false)
		}
	}
}

// Both lists have every length, up to one that is too long.
func TestLengthsOfStacks(t *testing.T) {
	e := edit(3, 2, "abc")
	for n := range 9 {
		for m := range 9 {
			s := stack(rowOfEdits(n, 10), rowOfEdits(m, 30))
			checkStackOk(t, s, n <= 6 && m <= 6)
			if n > 6 || m > 6 {
				checkInvalidStack(t, s)
			}
			for _, e := range append(editsThatAreJustSmall(), e) {
				checkStack(t, s, e)
			}
			for _, e := range editsThatAreNotSmall() {
				checkRefused(t, s, e)
			}
		}
	}
	for _, n := range []int{7, 8, 100, 5000} {
		checkInvalidStack(t, stack(make([]impl.Edit, n), nil))
		checkInvalidStack(t, stack(nil, make([]impl.Edit, n)))
		checkInvalidStack(t, stack(make([]impl.Edit, n), make([]impl.Edit, n)))
	}
}

func TestPushes(t *testing.T) {
	e := edit(7, 3, "new")
	for _, m := range []int{0, 1, 2, 5, 6} {
		redo := rowOfEdits(m, 30)
		row := rowOfEdits(6, 10)
		// On a list with room, nothing is dropped.
		checkPushedTo(t, stack(nil, redo), e, stack(edits(e), nil), true)
		checkPushedTo(t, stack(row[:1], redo), e, stack(edits(row[0], e), nil), true)
		checkPushedTo(t, stack(row[:4], redo), e, stack(edits(row[0], row[1], row[2], row[3], e), nil), true)
		checkPushedTo(t, stack(row[:5], redo), e, stack(edits(row[0], row[1], row[2], row[3], row[4], e), nil), true)
		// On a full one, the first edit is dropped and no other.
		checkPushedTo(t, stack(row, redo), e, stack(edits(row[1], row[2], row[3], row[4], row[5], e), nil), true)
		// Redo is gone, and can be neither looked at nor turned.
		pushed, _ := impl.StackPush(stack(row, redo), e)
		checkTopIs(t, pushed, true, impl.Edit{}, false)
		checkTurnedTo(t, pushed, true, e, impl.Stack{}, false)
	}
	// Equal edits are kept as often as they are pushed, and it is still the first that is dropped.
	a, b := edit(1, 1, "a"), edit(2, 2, "b")
	checkPushedTo(t, stack(edits(a, b, a, b, a, a), nil), a, stack(edits(b, a, b, a, a, a), nil), true)
	checkPushedTo(t, stack(edits(a, a), edits(a)), a, stack(edits(a, a, a), nil), true)
	checkPushedTo(t, stack(edits(b, a, a, a, a, a), edits(a)), b, stack(edits(a, a, a, a, a, b), nil), true)
}

func TestTurns(t *testing.T) {
	e := edit(7, 3, "new")
	row, other := rowOfEdits(6, 10), rowOfEdits(6, 30)
	for _, redo := range []bool{false, true} {
		list := []struct {
			from, onto         []impl.Edit
			wantFrom, wantOnto []impl.Edit
		}{
			{row[:1], nil, nil, edits(e)},
			{row[:2], nil, row[:1], edits(e)},
			{row[:5], nil, row[:4], edits(e)},
			{row, nil, row[:5], edits(e)},
			{row[:1], other[:1], nil, edits(other[0], e)},
			{row[:3], other[:4], row[:2], edits(other[0], other[1], other[2], other[3], e)},
			{row[:1], other[:5], nil, edits(other[0], other[1], other[2], other[3], other[4], e)},
			{row, other[:5], row[:5], edits(other[0], other[1], other[2], other[3], other[4], e)},
			// Onto a full list, which drops its first edit.
			{row[:1], other, nil, edits(other[1], other[2], other[3], other[4], other[5], e)},
			{row[:5], other, row[:4], edits(other[1], other[2], other[3], other[4], other[5], e)},
			{row, other, row[:5], edits(other[1], other[2], other[3], other[4], other[5], e)},
		}
		for _, x := range list {
			s := halves(redo, x.from, x.onto)
			checkTurnedTo(t, s, redo, e, halves(redo, x.wantFrom, x.wantOnto), true)
			checkStack(t, s, e)
		}
		// There is nothing to pop, even where the other list has something.
		for _, n := range []int{0, 1, 5, 6} {
			checkTurnedTo(t, halves(redo, nil, row[:n]), redo, e, impl.Stack{}, false)
			checkTurnedTo(t, halves(redo, []impl.Edit{}, row[:n]), redo, e, impl.Stack{}, false)
		}
	}
}

func TestTops(t *testing.T) {
	row, other := rowOfEdits(6, 10), rowOfEdits(6, 30)
	for n := range 7 {
		for m := range 7 {
			s := stack(row[:n], other[:m])
			if n == 0 {
				checkTopIs(t, s, false, impl.Edit{}, false)
			} else {
				checkTopIs(t, s, false, row[n-1], true)
			}
			if m == 0 {
				checkTopIs(t, s, true, impl.Edit{}, false)
			} else {
				checkTopIs(t, s, true, other[m-1], true)
			}
		}
	}
	for _, e := range editsThatAreJustSmall() {
		checkTopIs(t, stack(edits(row[0], e), row[1:2]), false, e, true)
		checkTopIs(t, stack(row[1:2], edits(row[0], e)), true, e, true)
	}
}

func TestStacksAreMovedByEdits(t *testing.T) {
	s := stack(edits(edit(1, 0, "a"), edit(3, 4, "bb"), edit(8, 2, "")), edits(edit(9, 0, "c"), edit(0, 12, "\u20ac")))
	list := []struct {
		by   impl.Edit
		want impl.Stack
	}{
		// Before all of them, and at the start of the first one.
		{edit(0, 1, ""), stack(edits(edit(0, 0, "a"), edit(2, 4, "bb"), edit(7, 2, "")), edits(edit(8, 0, "c"), edit(0, 11, "\u20ac")))},
		{edit(0, 1, "xyz"), stack(edits(edit(3, 0, "a"), edit(5, 4, "bb"), edit(10, 2, "")), edits(edit(11, 0, "c"), edit(3, 11, "\u20ac")))},
		{edit(1, 1, "xy"), stack(edits(edit(3, 0, "a"), edit(4, 4, "bb"), edit(9, 2, "")), edits(edit(10, 0, "c"), edit(0, 13, "\u20ac")))},
		// At the edges of an edit, and within it.
		{edit(3, 2, "xyz"), stack(edits(edit(1, 0, "a"), edit(6, 2, "bb"), edit(9, 2, "")), edits(edit(10, 0, "c"), edit(0, 13, "\u20ac")))},
		{edit(4, 1, "xyz"), stack(edits(edit(1, 0, "a"), edit(3, 6, "bb"), edit(10, 2, "")), edits(edit(11, 0, "c"), edit(0, 14, "\u20ac")))},
		{edit(5, 2, "xyz"), stack(edits(edit(1, 0, "a"), edit(3, 5, "bb"), edit(9, 2, "")), edits(edit(10, 0, "c"), edit(0, 13, "\u20ac")))},
		{edit(3, 4, "x"), stack(edits(edit(1, 0, "a"), edit(4, 0, "bb"), edit(5, 2, "")), edits(edit(6, 0, "c"), edit(0, 9, "\u20ac")))},
		{edit(7, 1, "x"), stack(edits(edit(1, 0, "a"), edit(3, 4, "bb"), edit(8, 2, "")), edits(edit(9, 0, "c"), edit(0, 12, "\u20ac")))},
		// It reaches over several of them, or over all.
		{edit(2, 9, ""), stack(edits(edit(1, 0, "a"), edit(2, 0, "bb"), edit(2, 0, "")), edits(edit(2, 0, "c"), edit(0, 3, "\u20ac")))},
		{edit(0, 12, "x"), stack(edits(edit(1, 0, "a"), edit(1, 0, "bb"), edit(1, 0, "")), edits(edit(1, 0, "c"), edit(1, 0, "\u20ac")))},
		// Behind most of them, and behind all.
		{edit(11, 1, "xyz"), stack(edits(edit(1, 0, "a"), edit(3, 4, "bb"), edit(8, 2, "")), edits(edit(9, 0, "c"), edit(0, 14, "\u20ac")))},
		{edit(12, 0, "xyz"), s},
		{edit(13, 5, "x"), s},
		{edit(400, 400, ""), s},
		// It cuts nothing: before, at the edges, within, and at an edit that cuts nothing either.
		{edit(0, 0, "xy"), stack(edits(edit(3, 0, "a"), edit(5, 4, "bb"), edit(10, 2, "")), edits(edit(11, 0, "c"), edit(2, 12, "\u20ac")))},
		{edit(1, 0, "xy"), stack(edits(edit(3, 0, "a"), edit(5, 4, "bb"), edit(10, 2, "")), edits(edit(11, 0, "c"), edit(0, 14, "\u20ac")))},
		{edit(3, 0, "xy"), stack(edits(edit(1, 0, "a"), edit(5, 4, "bb"), edit(10, 2, "")), edits(edit(11, 0, "c"), edit(0, 14, "\u20ac")))},
		{edit(5, 0, "xy"), stack(edits(edit(1, 0, "a"), edit(3, 6, "bb"), edit(10, 2, "")), edits(edit(11, 0, "c"), edit(0, 14, "\u20ac")))},
		{edit(7, 0, "xy"), stack(edits(edit(1, 0, "a"), edit(3, 4, "bb"), edit(10, 2, "")), edits(edit(11, 0, "c"), edit(0, 14, "\u20ac")))},
		{edit(9, 0, "xy"), stack(edits(edit(1, 0, "a"), edit(3, 4, "bb"), edit(8, 4, "")), edits(edit(11, 0, "c"), edit(0, 14, "\u20ac")))},
		// It changes nothing.
		{edit(0, 0, ""), s}, {edit(3, 0, ""), s}, {edit(5, 0, ""), s}, {edit(400, 0, ""), s},
	}
	for _, x := range list {
		checkStackMovedTo(t, s, x.by, x.want, true)
		checkStackMovedTo(t, stack(s.Redo, s.Undo), x.by, stack(x.want.Redo, x.want.Undo), true)
		checkStackMovedTo(t, stack(s.Undo, nil), x.by, stack(x.want.Undo, nil), true)
		checkStackMovedTo(t, stack(nil, s.Undo), x.by, stack(nil, x.want.Undo), true)
		checkStack(t, s, x.by)
	}
}

// No edit of a stack is moved by another one of it, as those of a list would be by EditMoves.
func TestMovedStacksMoveEachEditOnItsOwn(t *testing.T) {
	all := gridEdits()
	random := rand.New(rand.NewSource(81))
	for range 20000 {
		var s impl.Stack
		for range random.Intn(7) {
			s.Undo = append(s.Undo, all[5+random.Intn(len(all)-5)])
		}
		for range random.Intn(7) {
			s.Redo = append(s.Redo, all[5+random.Intn(len(all)-5)])
		}
		checkStack(t, s, all[random.Intn(len(all))])
	}
	e := edit(2, 0, "xyz")
	checkStackMovedTo(t, stack(edits(e, e, e), edits(e, e)), e, stack(edits(edit(5, 0, "xyz"), edit(5, 0, "xyz"), edit(5, 0, "xyz")), edits(edit(5, 0, "xyz"), edit(5, 0, "xyz"))), true)
}

// One edit is beyond the small ones after the move, or just not, in every place of either list.
func TestStacksThatAreMovedTooFar(t *testing.T) {
	full := strings.Repeat("a", 400)
	list := []struct {
		e, by, want impl.Edit
		fits        bool
	}{
		// At.
		{edit(399, 0, "z"), edit(0, 0, "x"), edit(400, 0, "z"), true},
		{edit(400, 0, "z"), edit(0, 0, "x"), impl.Edit{}, false},
		{edit(400, 0, "z"), edit(400, 0, "x"), impl.Edit{}, false},
		{edit(400, 0, "z"), edit(0, 1, "x"), edit(400, 0, "z"), true},
		{edit(400, 0, "z"), edit(0, 1, "xy"), impl.Edit{}, false},
		{edit(400, 400, "z"), edit(0, 0, "x"), impl.Edit{}, false},
		{edit(400, 400, "z"), edit(0, 1, ""), edit(399, 400, "z"), true},
		{edit(399, 400, "z"), edit(0, 0, "x"), edit(400, 400, "z"), true},
		{edit(1, 0, full), edit(0, 0, full), impl.Edit{}, false},
		{edit(0, 0, full), edit(0, 0, full), edit(400, 0, full), true},
		// Cut.
		{edit(0, 399, "z"), edit(1, 0, "x"), edit(0, 400, "z"), true},
		{edit(0, 400, "z"), edit(1, 0, "x"), impl.Edit{}, false},
		{edit(0, 400, "z"), edit(399, 0, "x"), impl.Edit{}, false},
		{edit(0, 400, "z"), edit(1, 1, "xy"), impl.Edit{}, false},
		{edit(0, 400, "z"), edit(1, 2, "xy"), edit(0, 400, "z"), true},
		{edit(0, 400, "z"), edit(0, 0, "x"), edit(1, 400, "z"), true},
		{edit(0, 400, "z"), edit(400, 0, "x"), edit(0, 400, "z"), true},
		{edit(400, 400, "z"), edit(400, 0, "x"), impl.Edit{}, false},
		{edit(0, 2, "z"), edit(1, 0, full), impl.Edit{}, false},
		{edit(0, 2, "z"), edit(1, 0, full[:399]), impl.Edit{}, false},
		{edit(0, 2, "z"), edit(1, 0, full[:398]), edit(0, 400, "z"), true},
	}
	for _, x := range list {
		for n := 1; n < 7; n++ {
			for place := range n {
				checkMovedTooFar(t, x.e, x.by, x.want, x.fits, n, place)
			}
		}
	}
}

// checkMovedTooFar has e in one place of a list of n edits that fit themselves, and both lists in either order.
func checkMovedTooFar(t *testing.T, e impl.Edit, by impl.Edit, want impl.Edit, fits bool, n int, place int) {
	t.Helper()
	filler := edit(0, 0, "f")
	movedFiller, _ := modelMove(filler, by)
	list, moved := make([]impl.Edit, n), make([]impl.Edit, n)
	for k := range n {
		list[k], moved[k] = filler, movedFiller
	}
	list[place], moved[place] = e, want
	for _, redo := range []bool{false, true} {
		for _, m := range []int{0, 1, 6} {
			other, movedOther := make([]impl.Edit, m), make([]impl.Edit, m)
			for k := range m {
				other[k], movedOther[k] = filler, movedFiller
			}
			s := halves(redo, list, other)
			checkStackOk(t, s, true)
			if fits {
				checkStackMovedTo(t, s, by, halves(redo, moved, movedOther), true)
			} else {
				checkStackMovedTo(t, s, by, impl.Stack{}, false)
			}
		}
	}
}

func TestEditsThatAreNotSmallAreNeitherPushedNorTurned(t *testing.T) {
	row, other := rowOfEdits(6, 10), rowOfEdits(6, 30)
	stacks := []impl.Stack{{}, stack(row[:1], nil), stack(nil, row[:1]), stack(row[:1], other[:1]), stack(row, nil), stack(nil, row), stack(row, other)}
	for _, s := range stacks {
		for _, e := range editsThatAreNotSmall() {
			checkRefused(t, s, e)
		}
		for _, e := range editsThatAreJustSmall() {
			checkStack(t, s, e)
			if _, ok := impl.StackPush(s, e); !ok {
				t.Fatalf("%s is not pushed on %s", editText(e), stackText(s))
			}
		}
	}
	full := strings.Repeat("a", 400)
	for _, at := range limitNumbers() {
		for _, cut := range limitNumbers() {
			for _, put := range []string{"", full, full + "a"} {
				e := edit(at, cut, put)
				checkStack(t, stack(row[:2], other[:2]), e)
				checkStack(t, impl.Stack{}, e)
				checkStack(t, stack(edits(e), nil), edit(0, 0, ""))
				checkStack(t, stack(nil, edits(e)), edit(1, 0, "x"))
			}
		}
	}
}

// An edit that is not small comes first, in the middle or last, in a list of any length.
func TestStacksWithAnEditThatIsNotSmall(t *testing.T) {
	row, other := rowOfEdits(6, 10), rowOfEdits(6, 30)
	for _, wrong := range editsThatAreNotSmall() {
		for n := range 6 {
			for place := range n + 1 {
				list := slices.Insert(slices.Clone(row[:n]), place, wrong)
				for _, redo := range []bool{false, true} {
					for _, m := range []int{0, 1, 6} {
						checkInvalidStack(t, halves(redo, list, other[:m]))
					}
				}
			}
		}
		// The list would be valid without its first edit.
		checkInvalidStack(t, stack(append(edits(wrong), row...), nil))
		checkInvalidStack(t, stack(nil, append(edits(wrong), row...)))
		checkInvalidStack(t, stack(edits(wrong), edits(wrong)))
	}
	for _, e := range editsThatAreJustSmall() {
		checkStackOk(t, stack(edits(e, e, e, e, e, e), edits(e, e, e, e, e, e)), true)
	}
}

// What was pushed is the top, and what it was turned into is the top of the other list.
func TestTurnedEditsCanBeRedone(t *testing.T) {
	row, other := rowOfEdits(6, 10), rowOfEdits(6, 30)
	for n := range 7 {
		for m := range 7 {
			for _, e := range append(editsThatAreJustSmall(), edit(3, 2, "abc")) {
				pushed, ok := impl.StackPush(stack(row[:n], other[:m]), e)
				checkTopIs(t, pushed, false, e, true)
				back, again := edit(e.At, 5, "back"), edit(e.At, 6, "again")
				turned, turns := impl.StackTurn(pushed, false, back)
				checkTopIs(t, turned, true, back, true)
				redone, redoes := impl.StackTurn(turned, true, again)
				checkTopIs(t, redone, false, again, true)
				checkTopIs(t, redone, true, impl.Edit{}, false)
				if !ok || !turns || !redoes || len(redone.Undo) != min(n+1, 6) {
					t.Fatalf("%s is pushed on %d edits, turned, and redone to %s", editText(e), n, stackText(redone))
				}
			}
		}
	}
}

// randomSmallEdit is near the start of a text, or so near its end that others move it too far.
func randomSmallEdit(random *rand.Rand) impl.Edit {
	at := random.Intn(20)
	if random.Intn(4) == 0 {
		at = 400 - random.Intn(4)
	}
	return edit(at, random.Intn(4), strings.Repeat("a", random.Intn(6)))
}

func TestRandomWalksOfStacks(t *testing.T) {
	random := rand.New(rand.NewSource(82))
	done := map[string]int{}
	for range 300 {
		s := impl.Stack{}
		for range 60 {
			checkStackOk(t, s, true)
			s = stackAfter(t, random, s, done)
		}
	}
	for _, what := range []string{"pushed", "pushed on a full list", "cleared", "undone", "redone", "turned onto a full list", "nothing to turn", "moved", "moved too far"} {
		if done[what] < 100 {
			t.Errorf("%s: only %d times", what, done[what])
		}
	}
}

// stackAfter executes one random operation, and counts what it has done.
func stackAfter(t *testing.T, random *rand.Rand, s impl.Stack, done map[string]int) impl.Stack {
	t.Helper()
	e := randomSmallEdit(random)
	checkStack(t, s, e)
	switch random.Intn(14) {
	case 0, 1, 2, 3, 4:
		next, _ := impl.StackPush(s, e)
		done["pushed"]++
		if len(s.Undo) == 6 {
			done["pushed on a full list"]++
		}
		if len(s.Redo) > 0 {
			done["cleared"]++
		}
		return next
	case 5, 6, 7, 8, 9:
		redo := random.Intn(2) == 1
		next, ok := impl.StackTurn(s, redo, e)
		switch {
		case !ok:
			done["nothing to turn"]++
			return s
		case redo:
			done["redone"]++
		default:
			done["undone"]++
		}
		if len(half(s, !redo)) == 6 {
			done["turned onto a full list"]++
		}
		return next
	case 10, 11, 12:
		if next, ok := impl.StackMoved(s, e); ok {
			done["moved"]++
			return next
		}
		done["moved too far"]++
	case 13:
		// So that both lists are full now and then.
		return stack(rowOfEdits(6, random.Intn(380)), rowOfEdits(4+random.Intn(3), random.Intn(380)))
	}
	return s
}

// A text is changed nine times, and the last six changes are undone and redone.
func TestStacksUndoAndRedoEditsOfAText(t *testing.T) {
	random := rand.New(rand.NewSource(83))
	for range 300 {
		text := textOf(randomRope(random, 60))
		texts := []string{text}
		s := impl.Stack{}
		for range 9 {
			e := randomEdit(random, text, 20)
			back, _ := impl.EditBack([]byte(text), e)
			s, _ = impl.StackPush(s, back)
			text, _ = modelDo(text, e)
			texts = append(texts, text)
		}
		for n := 8; n >= 3; n-- {
			text, s = turnText(t, text, s, false)
			if text != texts[n] {
				t.Fatalf("the undo leaves %q, not %q", text, texts[n])
			}
		}
		checkTopIs(t, s, false, impl.Edit{}, false)
		for n := 4; n <= 9; n++ {
			text, s = turnText(t, text, s, true)
			if text != texts[n] {
				t.Fatalf("the redo leaves %q, not %q", text, texts[n])
			}
		}
		checkTopIs(t, s, true, impl.Edit{}, false)
	}
}

// turnText applies the top of a stack to a text, and turns the stack.
func turnText(t *testing.T, text string, s impl.Stack, redo bool) (string, impl.Stack) {
	t.Helper()
	top, ok := impl.StackTop(s, redo)
	back, backOk := impl.EditBack([]byte(text), top)
	next, turns := impl.StackTurn(s, redo, back)
	after, does := modelDo(text, top)
	if !ok || !backOk || !turns || !does {
		t.Fatalf("%s cannot be turned for %q", stackText(s), text)
	}
	return after, next
}

// An edit of another session, apart from the own ones, is kept by an undo.
func TestMovedStacksUndoOnlyOwnEdits(t *testing.T) {
	s, _ := impl.StackPush(impl.Stack{}, edit(1, 2, "b"))
	s, _ = impl.StackPush(s, edit(6, 0, "f"))
	// "abcdef" has become "aXYcde", and becomes "__aXYcde".
	s, ok := impl.StackMoved(s, edit(0, 0, "__"))
	if !ok {
		t.Fatal("the stack cannot be moved")
	}
	text, s := turnText(t, "__aXYcde", s, false)
	if text != "__aXYcdef" {
		t.Errorf("the first undo leaves %q", text)
	}
	text, s = turnText(t, text, s, false)
	if text != "__abcdef" {
		t.Errorf("the second undo leaves %q", text)
	}
	text, s = turnText(t, text, s, true)
	text, _ = turnText(t, text, s, true)
	if text != "__aXYcde" {
		t.Errorf("the redos leave %q", text)
	}
}

// roomyEdits have other edits behind the end of the list, and other bytes behind each Put.
func roomyEdits(list []impl.Edit) []impl.Edit {
	var whole []impl.Edit
	for _, e := range append(slices.Clone(list), edit(-1, 500, "behind"), edit(7, 1, "\xff")) {
		roomy, _ := roomyEdit(e.At, e.Cut, string(e.Put))
		whole = append(whole, roomy)
	}
	return whole[:len(list)]
}

// wholeEdits shows all of a list, its spare capacity included.
func wholeEdits(list []impl.Edit) string {
	var all []string
	for _, e := range list[:cap(list)] {
		all = append(all, editText(impl.Edit{At: e.At, Cut: e.Cut, Put: e.Put[:cap(e.Put)]}))
	}
	return strings.Join(all, ", ")
}

// putsOf are all slices of bytes of a stack.
func putsOf(s impl.Stack) [][]byte {
	var all [][]byte
	for _, e := range slices.Concat(s.Undo, s.Redo) {
		all = append(all, e.Put)
	}
	return all
}

// overwriteEdits leaves the bytes of the edits alone.
func overwriteEdits(list []impl.Edit) {
	for i := range list[:cap(list)] {
		list[:cap(list)][i] = edit(-7, -7, "overwritten")
	}
}

// checkOwnSlices overwrites each slice of a result in turn, and asserts that no other one changes.
func checkOwnSlices(t *testing.T, name string, call func() impl.Stack) {
	t.Helper()
	want := call()
	for k := range putsOf(want) {
		all := putsOf(call())
		overwrite(all[k])
		for i, put := range putsOf(want) {
			if i != k && !bytes.Equal(all[i], put) {
				t.Fatalf("%s: the slices of bytes %d and %d of %s share memory", name, i, k, stackText(want))
			}
		}
	}
	for _, redo := range []bool{false, true} {
		got := call()
		overwriteEdits(half(got, redo))
		if editTexts(half(got, !redo)) != editTexts(half(want, !redo)) {
			t.Fatalf("%s: both lists of %s share memory", name, stackText(want))
		}
	}
}

// checkOwnStack overwrites a result, and then the arguments, and asserts that nothing else changes.
func checkOwnStack(t *testing.T, name string, s impl.Stack, e impl.Edit, call func(s impl.Stack, e impl.Edit) impl.Stack) {
	t.Helper()
	want := stackText(call(s, e))
	list := roomyEdits(edits(e))
	roomy := stack(roomyEdits(s.Undo), roomyEdits(s.Redo))
	whole := func() string {
		return wholeEdits(roomy.Undo) + "; " + wholeEdits(roomy.Redo) + "; " + wholeEdits(list)
	}
	before := whole()
	first, second := call(roomy, list[0]), call(roomy, list[0])
	if stackText(first) != want {
		t.Fatalf("%s of %s is %s with more behind the lists, and %s without", name, stackText(s), stackText(first), want)
	}
	checkOwnSlices(t, name, func() impl.Stack { return call(roomy, list[0]) })
	for _, put := range putsOf(first) {
		overwrite(put)
	}
	overwriteEdits(first.Undo)
	overwriteEdits(first.Redo)
	if got := whole(); got != before {
		t.Fatalf("%s: the arguments %s became %s", name, before, got)
	}
	if stackText(second) != want {
		t.Fatalf("two results of %s share memory", name)
	}
	for _, put := range append(putsOf(roomy), list[0].Put) {
		overwrite(put)
	}
	overwriteEdits(roomy.Undo)
	overwriteEdits(roomy.Redo)
	if stackText(second) != want {
		t.Fatalf("the result %s of %s changes with its arguments", want, name)
	}
}

// stackCalls are all functions that return edits.
func stackCalls() map[string]func(s impl.Stack, e impl.Edit) impl.Stack {
	calls := map[string]func(s impl.Stack, e impl.Edit) impl.Stack{
		"StackPush": func(s impl.Stack, e impl.Edit) impl.Stack {
			got, _ := impl.StackPush(s, e)
			return got
		},
		"StackMoved": func(s impl.Stack, e impl.Edit) impl.Stack {
			got, _ := impl.StackMoved(s, e)
			return got
		},
	}
	for _, redo := range []bool{false, true} {
		calls[fmt.Sprint("StackTop with redo ", redo)] = func(s impl.Stack, e impl.Edit) impl.Stack {
			got, _ := impl.StackTop(s, redo)
			return stack(edits(got), nil)
		}
		calls[fmt.Sprint("StackTurn with redo ", redo)] = func(s impl.Stack, e impl.Edit) impl.Stack {
			got, _ := impl.StackTurn(s, redo, e)
			return got
		}
	}
	return calls
}

func TestStacksShareNoMemory(t *testing.T) {
	row, other := rowOfEdits(7, 10), rowOfEdits(7, 30)
	for name, call := range stackCalls() {
		for _, n := range []int{0, 1, 2, 5, 6, 7} {
			for _, m := range []int{0, 1, 2, 5, 6, 7} {
				for _, e := range edits(impl.Edit{}, edit(3, 2, "abc\u20ac"), edit(12, 3, ""), edit(0, 0, strings.Repeat("a", 400)), edit(-1, 0, "a")) {
					checkOwnStack(t, name, stack(row[:n], other[:m]), e, call)
				}
			}
		}
		checkOwnStack(t, name, stack(edits(edit(400, 0, "z"), edit(1, 0, "y")), edits(edit(2, 0, "x"))), edit(0, 0, "a"), call)
	}
}

// The arguments may be parts of one slice, and have each other in their spare capacity.
func TestStacksOfPartsOfOneSlice(t *testing.T) {
	row := roomyEdits(rowOfEdits(6, 10))
	put := row[0].Put
	for i := range row {
		row[i].Put = put
	}
	before := wholeEdits(row)
	for name, call := range stackCalls() {
		for n := range 7 {
			for m := range 7 {
				for _, e := range edits(row[0], row[3], impl.Edit{At: 2, Cut: 1, Put: put[:2]}) {
					for _, s := range []impl.Stack{stack(row[:n], row[:m]), stack(row[:n], row[m:]), stack(row[n:], row[:m])} {
						call(s, e)
						checkStack(t, s, e)
						checkOwnSlices(t, name, func() impl.Stack { return call(s, e) })
					}
				}
			}
		}
		if got := wholeEdits(row); got != before {
			t.Fatalf("%s: the edits %s became %s", name, before, got)
		}
	}
}
