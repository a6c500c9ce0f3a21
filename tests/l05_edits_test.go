package tests

import (
	"bytes"
	"fmt"
	"math"
	"math/rand"
	"slices"
	"strings"
	"testing"

	"loop.example/g00677/impl"
)

func edit(at int, cut int, put string) impl.Edit {
	return impl.Edit{At: at, Cut: cut, Put: []byte(put)}
}

func editText(e impl.Edit) string {
	return fmt.Sprintf("{%d, %d, %q}", e.At, e.Cut, e.Put)
}

func editTexts(list []impl.Edit) string {
	var all []string
	for _, e := range list {
		all = append(all, editText(e))
	}
	return strings.Join(all, ", ")
}

func sameEdit(a impl.Edit, b impl.Edit) bool {
	return a.At == b.At && a.Cut == b.Cut && bytes.Equal(a.Put, b.Put)
}

// modelDo follows the document: the text after e, and whether e is valid for text.
func modelDo(text string, e impl.Edit) (string, bool) {
	places := wantBoundaries([]byte(text))
	// A cut that is too long is rejected first, so that no sum overflows.
	if e.Cut < 0 || e.Cut > 400 || !isText(e.Put) || !slices.Contains(places, e.At) || !slices.Contains(places, e.At+e.Cut) {
		return "", false
	}
	after := text[:e.At] + string(e.Put) + text[e.At+e.Cut:]
	if len(after) > 400 {
		return "", false
	}
	return after, true
}

func modelDoAll(text string, list []impl.Edit) (string, int) {
	if !isText([]byte(text)) {
		return "", -1
	}
	for i, e := range list {
		after, ok := modelDo(text, e)
		if !ok {
			return text, i
		}
		text = after
	}
	return text, len(list)
}

// modelOf tries all boundaries: from the last one for what is kept at the start, and from the first one for what is kept at the end.
func modelOf(was string, is string) impl.Edit {
	places, others := wantBoundaries([]byte(was)), wantBoundaries([]byte(is))
	at := 0
	for _, i := range places {
		if slices.Contains(others, i) && was[:i] == is[:i] {
			at = i
		}
	}
	for _, i := range places {
		j := len(is) - len(was) + i
		if i >= at && j >= at && slices.Contains(others, j) && was[i:] == is[j:] {
			return edit(at, i-at, is[at:j])
		}
	}
	panic("the empty end is the same in all texts")
}

func modelJoin(a impl.Edit, b impl.Edit) (impl.Edit, bool) {
	// The fields come first, so that no sum overflows.
	for _, n := range []int{a.At, a.Cut, len(a.Put), b.At, b.Cut, len(b.Put)} {
		if n < 0 || n > 400 {
			return impl.Edit{}, false
		}
	}
	if b.At < a.At || b.At+b.Cut > a.At+len(a.Put) {
		return impl.Edit{}, false
	}
	put := string(a.Put[:b.At-a.At]) + string(b.Put) + string(a.Put[b.At+b.Cut-a.At:])
	if len(put) > 400 {
		return impl.Edit{}, false
	}
	return edit(a.At, a.Cut, put), true
}

// checkDo compares EditOk, EditDo and EditBack with the model, and undoes the edit.
func checkDo(t *testing.T, text string, e impl.Edit) {
	t.Helper()
	want, ok := modelDo(text, e)
	if !ok {
		checkNotDone(t, text, e)
		return
	}
	checkDone(t, text, e, want)
}

// checkDone asserts that e is valid for text, and promise 6 for it.
func checkDone(t *testing.T, text string, e impl.Edit, want string) {
	t.Helper()
	if !impl.EditOk([]byte(text), e) {
		t.Fatalf("%s is not valid for %q", editText(e), text)
	}
	checkAfter(t, text, e, want)
	back, ok := impl.EditBack([]byte(text), e)
	if wantBack := edit(e.At, len(e.Put), text[e.At:e.At+e.Cut]); !ok || !sameEdit(back, wantBack) {
		t.Fatalf("EditBack(%q, %s) = %s, %v, want %s", text, editText(e), editText(back), ok, editText(wantBack))
	}
	checkAfter(t, want, back, text)
	again, ok := impl.EditBack([]byte(want), back)
	if !ok || !sameEdit(again, e) {
		t.Fatalf("the inverse of the inverse of %s is %s, %v", editText(e), editText(again), ok)
	}
}

func checkAfter(t *testing.T, text string, e impl.Edit, want string) {
	t.Helper()
	if got, ok := impl.EditDo([]byte(text), e); !ok || string(got) != want {
		t.Fatalf("EditDo(%q, %s) = %q, %v, want %q", text, editText(e), got, ok, want)
	}
}

func checkNotDone(t *testing.T, text string, e impl.Edit) {
	t.Helper()
	if impl.EditOk([]byte(text), e) {
		t.Fatalf("%s is valid for %q", editText(e), text)
	}
	if got, ok := impl.EditDo([]byte(text), e); ok || len(got) > 0 {
		t.Fatalf("EditDo(%q, %s) = %q, %v", text, editText(e), got, ok)
	}
	if got, ok := impl.EditBack([]byte(text), e); ok || !sameEdit(got, impl.Edit{}) {
		t.Fatalf("EditBack(%q, %s) = %s, %v", text, editText(e), editText(got), ok)
	}
}

// checkAll compares EditsDo with the model, and with what it does to the list in two parts.
func checkAll(t *testing.T, text string, list []impl.Edit) {
	t.Helper()
	want, wantCount := modelDoAll(text, list)
	checkAllDone(t, text, list, want, wantCount)
	for k := range wantCount + 1 {
		middle, first := impl.EditsDo([]byte(text), list[:k])
		if first != k {
			t.Fatalf("EditsDo of %q applies %d of the first %d edits", text, first, k)
		}
		checkAllDone(t, string(middle), list[k:], want, wantCount-k)
	}
}

func checkAllDone(t *testing.T, text string, list []impl.Edit, want string, wantCount int) {
	t.Helper()
	got, count := impl.EditsDo([]byte(text), list)
	if string(got) != want || count != wantCount {
		t.Fatalf("EditsDo(%q, %s) = %q, %d, want %q, %d", text, editTexts(list), got, count, want, wantCount)
	}
}

// checkOf compares EditOf with the model in both directions.
func checkOf(t *testing.T, was string, is string) {
	t.Helper()
	checkChange(t, was, is, modelOf(was, is))
	checkChange(t, is, was, modelOf(is, was))
}

func checkChange(t *testing.T, was string, is string, want impl.Edit) {
	t.Helper()
	got, ok := impl.EditOf([]byte(was), []byte(is))
	if !ok || !sameEdit(got, want) {
		t.Fatalf("EditOf(%q, %q) = %s, %v, want %s", was, is, editText(got), ok, editText(want))
	}
	checkDone(t, was, got, is)
}

func checkNoChange(t *testing.T, was string, is string) {
	t.Helper()
	if got, ok := impl.EditOf([]byte(was), []byte(is)); ok || !sameEdit(got, impl.Edit{}) {
		t.Fatalf("EditOf(%q, %q) = %s, %v", was, is, editText(got), ok)
	}
}

func checkJoined(t *testing.T, a impl.Edit, b impl.Edit) {
	t.Helper()
	want, wantOk := modelJoin(a, b)
	checkJoinedTo(t, a, b, want, wantOk)
}

func checkJoinedTo(t *testing.T, a impl.Edit, b impl.Edit, want impl.Edit, wantOk bool) {
	t.Helper()
	if got, ok := impl.EditJoin(a, b); ok != wantOk || !sameEdit(got, want) {
		t.Fatalf("EditJoin(%s, %s) = %s, %v, want %s, %v", editText(a), editText(b), editText(got), ok, editText(want), wantOk)
	}
}

// checkEffect asserts that the joined edit does to text what a and then b do.
func checkEffect(t *testing.T, text string, a impl.Edit, b impl.Edit) {
	t.Helper()
	both, count := impl.EditsDo([]byte(text), []impl.Edit{a, b})
	if count != 2 {
		t.Fatalf("%s and %s cannot both be applied to %q", editText(a), editText(b), text)
	}
	joined, ok := impl.EditJoin(a, b)
	if !ok {
		t.Fatalf("%s and %s are not joined", editText(a), editText(b))
	}
	checkDone(t, text, joined, string(both))
}

// textsUpTo lists all texts of at most that many of the code points.
func textsUpTo(n int, codePoints ...string) []string {
	list := []string{""}
	longest := list
	for range n {
		var longer []string
		for _, text := range longest {
			for _, c := range codePoints {
				longer = append(longer, text+c)
			}
		}
		list = append(list, longer...)
		longest = longer
	}
	return list
}

// limitNumbers are the ends of all the ranges of fields, and the integers next to them.
func limitNumbers() []int {
	return []int{math.MinInt, math.MinInt + 1, -401, -400, -1, 0, 1, 2, 399, 400, 401, 800, math.MaxInt - 400, math.MaxInt - 1, math.MaxInt}
}

// wrongTexts are no texts: not UTF-8, or too long.
func wrongTexts() []string {
	return []string{"\xff", "\xc3", "\xa9", "a\xe2\x82", "\xf0\x9f\x99", "\xc0\x80", "\xed\xa0\x80", "\xf4\x90\x80\x80", "a\xa9b", strings.Repeat("a", 401), strings.Repeat("\u00e9", 201), strings.Repeat("a", 400) + "\xc3", strings.Repeat("\U0001f642", 1000)}
}

func TestEditExamples(t *testing.T) {
	text := "abc\u00e9"
	e := edit(1, 1, "XY")
	checkDone(t, text, e, "aXYc\u00e9")
	if back, ok := impl.EditBack([]byte(text), e); !ok || !sameEdit(back, edit(1, 2, "b")) {
		t.Errorf("EditBack %s, %v", editText(back), ok)
	}
	checkAllDone(t, text, []impl.Edit{e, edit(0, 1, ""), edit(9, 0, "")}, "XYc\u00e9", 2)
	checkChange(t, "abcd", "abXbcd", edit(2, 0, "Xb"))
	checkJoinedTo(t, e, edit(2, 1, "Z"), edit(1, 1, "XZ"), true)
	checkEffect(t, text, e, edit(2, 1, "Z"))
}

func TestEditsAtTheEdgesOfTheText(t *testing.T) {
	const text = "a\u00e9\u20ac\U0001f642"
	list := []struct {
		text    string
		at, cut int
		put     string
		want    string
	}{
		// The empty text.
		{"", 0, 0, "", ""},
		{"", 0, 0, "a", "a"},
		{"", 0, 0, "\U0001f642\n", "\U0001f642\n"},
		// At the start and at the end.
		{text, 0, 0, "X", "X" + text},
		{text, 0, 1, "X", "X\u00e9\u20ac\U0001f642"},
		{text, 10, 0, "X", text + "X"},
		{text, 6, 4, "X", "a\u00e9\u20acX"},
		// A cut of 0 bytes, an empty put, both.
		{text, 3, 0, "XY", "a\u00e9XY\u20ac\U0001f642"},
		{text, 1, 2, "", "a\u20ac\U0001f642"},
		{text, 3, 3, "", "a\u00e9\U0001f642"},
		{text, 6, 4, "", "a\u00e9\u20ac"},
		{text, 0, 0, "", text},
		{text, 3, 0, "", text},
		{text, 10, 0, "", text},
		// A cut of everything.
		{text, 0, 10, "", ""},
		{text, 0, 10, "\u00e9", "\u00e9"},
		{text, 0, 10, text, text},
		{"a", 0, 1, "", ""},
		// A put that is what is cut, longer and shorter.
		{text, 1, 2, "\u00e9", text},
		{text, 1, 2, "bcd", "abcd\u20ac\U0001f642"},
		{text, 1, 9, "\n", "a\n"},
	}
	for _, x := range list {
		e := edit(x.at, x.cut, x.put)
		checkDone(t, x.text, e, x.want)
		checkDo(t, x.text, e)
		checkAll(t, x.text, []impl.Edit{e})
	}
	// No slices at all.
	if got, ok := impl.EditDo(nil, impl.Edit{}); !ok || len(got) != 0 || !impl.EditOk(nil, impl.Edit{}) {
		t.Errorf("EditDo %q, %v", got, ok)
	}
	if got, ok := impl.EditBack(nil, impl.Edit{}); !ok || !sameEdit(got, impl.Edit{}) {
		t.Errorf("EditBack %s, %v", editText(got), ok)
	}
}

func TestEditsWithinACodePoint(t *testing.T) {
	for _, c := range wideRunes() {
		text := "a" + c + "b"
		end := 1 + len(c)
		for within := 2; within < end; within++ {
			for _, put := range []string{"", "X", c} {
				// At within it, and At + Cut after it or at the end.
				checkNotDone(t, text, edit(within, 0, put))
				checkNotDone(t, text, edit(within, end-within, put))
				checkNotDone(t, text, edit(within, end-within+1, put))
				// At + Cut within it, and At before it or at the start.
				checkNotDone(t, text, edit(1, within-1, put))
				checkNotDone(t, text, edit(0, within, put))
				// Both within it.
				checkNotDone(t, text, edit(2, within-2, put))
				checkNotDone(t, text, edit(within, end-1-within, put))
			}
			// The bytes that complete it again do not help.
			checkNotDone(t, text, edit(within, end-within, c[within-1:]))
			checkNotDone(t, text, edit(1, within-1, c[:within-1]))
		}
		for _, put := range []string{"", "X", c} {
			checkDone(t, text, edit(1, 0, put), "a"+put+c+"b")
			checkDone(t, text, edit(end, 0, put), "a"+c+put+"b")
			checkDone(t, text, edit(1, len(c), put), "a"+put+"b")
		}
	}
}

func TestAllEditsOfSmallTexts(t *testing.T) {
	puts := []string{"", "X", "\u00e9\n", "\U0001f642\u20ac", "\xc3", "\xa9", strings.Repeat("a", 398), strings.Repeat("a", 401)}
	for _, text := range textsUpTo(3, "a", "\u00e9", "\u20ac", "\U0001f642") {
		for _, at := range allOffsets(text) {
			for _, cut := range allOffsets(text) {
				for _, put := range puts {
					checkDo(t, text, edit(at, cut, put))
				}
			}
		}
	}
}

func TestEditedTextsOfTheGreatestLength(t *testing.T) {
	for _, c := range append(wideRunes(), "a") {
		full := string(textOfBytes(400, c))
		places := wantBoundaries([]byte(full))
		for n, at := range places {
			checkDone(t, full, edit(at, 0, ""), full)
			checkNotDone(t, full, edit(at, 0, "X"))
			end := places[min(n+3, len(places)-1)]
			checkDone(t, full, edit(at, end-at, strings.Repeat("X", end-at)), full[:at]+strings.Repeat("X", end-at)+full[end:])
			checkNotDone(t, full, edit(at, end-at, strings.Repeat("X", end-at+1)))
			// The text that remains is as long as the put that is missing.
			checkDone(t, full[:at], edit(0, 0, full[at:]), full[at:]+full[:at])
			checkNotDone(t, full[:at], edit(0, 0, full[at:]+"X"))
		}
		checkDone(t, full, edit(0, 400, full), full)
		checkDone(t, "", edit(0, 0, full), full)
		checkNotDone(t, "", edit(0, 0, full+"X"))
		checkNotDone(t, full, edit(0, 400, full+"X"))
		checkNotDone(t, full+"X", edit(0, 401, ""))
		checkNotDone(t, full+"X", edit(400, 1, ""))
	}
	almost := strings.Repeat("a", 399)
	checkDone(t, almost, edit(200, 0, "X"), almost[:200]+"X"+almost[200:])
	checkNotDone(t, almost, edit(200, 0, "\u00e9"))
	checkDone(t, almost, edit(200, 1, "\u00e9"), almost[:200]+"\u00e9"+almost[201:])
}

func TestEditsWithWrongNumbers(t *testing.T) {
	full := strings.Repeat("a", 400)
	for _, at := range limitNumbers() {
		for _, cut := range limitNumbers() {
			for _, put := range []string{"", "X", full, full + "X"} {
				for _, text := range []string{"", "a", "a\u00e9b", full, full + "a"} {
					checkDo(t, text, edit(at, cut, put))
				}
			}
		}
	}
	for _, wrong := range [][2]int{{-1, 0}, {-1, 1}, {-1, 5}, {0, -1}, {1, -1}, {4, -1}, {5, -1}, {0, 5}, {1, 4}, {4, 1}, {5, 0}, {math.MaxInt, 0}, {math.MaxInt, 1}, {1, math.MaxInt}, {4, math.MaxInt}, {0, math.MaxInt}, {math.MinInt, 0}, {math.MinInt, math.MaxInt}, {math.MinInt, math.MinInt}, {0, math.MinInt}, {4, math.MinInt}} {
		for _, put := range []string{"", "X"} {
			checkNotDone(t, "a\u00e9b", edit(wrong[0], wrong[1], put))
		}
	}
}

func TestEditsOfAndWithWhatIsNoText(t *testing.T) {
	for _, wrong := range wrongTexts() {
		for _, at := range []int{-1, 0, 1, 2, 3, len(wrong) - 1, len(wrong), len(wrong) + 1} {
			for _, cut := range []int{-1, 0, 1, 2, len(wrong) - at, len(wrong)} {
				checkNotDone(t, wrong, edit(at, cut, ""))
				checkNotDone(t, wrong, edit(at, cut, "X"))
				checkNotDone(t, "a\u00e9b", edit(at, cut, wrong))
				checkNotDone(t, wrong, edit(at, cut, wrong))
			}
		}
		checkNoChange(t, wrong, "")
		checkNoChange(t, "", wrong)
		checkNoChange(t, wrong, "abc")
		checkNoChange(t, "abc", wrong)
		checkNoChange(t, wrong, wrong)
		checkAllDone(t, wrong, nil, "", -1)
		checkAllDone(t, wrong, []impl.Edit{edit(0, 0, "")}, "", -1)
		checkAllDone(t, wrong, []impl.Edit{edit(0, len(wrong), ""), edit(0, 0, "X")}, "", -1)
		checkAllDone(t, "ab", []impl.Edit{edit(0, 1, "X"), edit(1, 0, wrong), edit(0, 0, "Y")}, "Xb", 1)
	}
	// What the parts of a code point would make together is a text, but the parts are none.
	checkNotDone(t, "\xc3", edit(1, 0, "\xa9"))
	checkNotDone(t, "\xa9", edit(0, 0, "\xc3"))
	checkNotDone(t, "a\xff", edit(1, 1, ""))
	checkNotDone(t, "\u00e9", edit(1, 1, "\xa8"))
}

func TestListsOfEdits(t *testing.T) {
	wrong := []impl.Edit{edit(9, 0, ""), edit(-1, 0, "X"), edit(0, -1, "X"), edit(2, 1, "X"), edit(1, 1, "X"), edit(0, 0, "\xff"), edit(0, 0, strings.Repeat("a", 400)), edit(math.MaxInt, math.MaxInt, ""), edit(math.MinInt, math.MaxInt, "")}
	const text = "a\u00e9"
	good := []impl.Edit{edit(0, 0, "\u20ac"), edit(3, 1, "b"), edit(0, 3, "a")}
	checkAllDone(t, text, good, "ab\u00e9", 3)
	for _, e := range wrong {
		checkAllDone(t, text, []impl.Edit{e}, text, 0)
		checkAllDone(t, text, slices.Concat([]impl.Edit{e}, good), text, 0)
	}
	for i, want := range []string{text, "\u20aca\u00e9", "\u20acb\u00e9", "ab\u00e9"} {
		list := slices.Insert(slices.Clone(good), i, edit(9, 0, ""))
		checkAllDone(t, text, list, want, i)
		checkAll(t, text, list)
	}
	checkAll(t, text, good)
	checkAllDone(t, text, nil, text, 0)
	checkAllDone(t, text, []impl.Edit{}, text, 0)
	checkAllDone(t, "", nil, "", 0)
	checkAllDone(t, "", []impl.Edit{edit(0, 0, ""), edit(0, 0, "")}, "", 2)
	checkAllDone(t, "", []impl.Edit{edit(1, 0, "")}, "", 0)
}

// Each edit is valid, or not, for the result of the previous ones only.
func TestListsOfEditsThatDependOnEachOther(t *testing.T) {
	checkAllDone(t, "", []impl.Edit{edit(0, 0, "ab"), edit(2, 0, "c"), edit(1, 2, "\u00e9"), edit(3, 0, "d")}, "a\u00e9d", 4)
	checkAllDone(t, "abc", []impl.Edit{edit(0, 3, ""), edit(0, 1, "")}, "", 1)
	checkAllDone(t, "abc", []impl.Edit{edit(1, 1, "\u00e9"), edit(2, 0, "X")}, "a\u00e9c", 1)
	checkAllDone(t, "a\u00e9c", []impl.Edit{edit(1, 2, "xy"), edit(2, 0, "X")}, "axXyc", 2)
	full := strings.Repeat("a", 400)
	checkAllDone(t, full, []impl.Edit{edit(0, 1, ""), edit(0, 0, "b"), edit(0, 0, "c"), edit(0, 1, "")}, "b"+full[1:], 2)
	checkAllDone(t, full+"a", []impl.Edit{edit(0, 1, "")}, "", -1)
	steps := make([]impl.Edit, 401)
	for i := range steps {
		steps[i] = edit(i/2, 0, "b")
	}
	checkAllDone(t, "", steps, strings.Repeat("b", 400), 400)
	checkAll(t, "", steps[:50])
	checkAll(t, full[:370], steps[:50])
}

func TestChangesBetweenTexts(t *testing.T) {
	list := []struct {
		was, is string
		want    impl.Edit
	}{
		// Equal texts and empty texts.
		{"", "", edit(0, 0, "")},
		{"abc", "abc", edit(3, 0, "")},
		{"a\U0001f642", "a\U0001f642", edit(5, 0, "")},
		{"", "abc", edit(0, 0, "abc")},
		{"abc", "", edit(0, 3, "")},
		{"", "\U0001f642", edit(0, 0, "\U0001f642")},
		{"\u00e9", "", edit(0, 2, "")},
		// At the start, in the middle, at the end, and everywhere.
		{"abc", "Xbc", edit(0, 1, "X")},
		{"abc", "aXc", edit(1, 1, "X")},
		{"abc", "abX", edit(2, 1, "X")},
		{"abc", "XYZW", edit(0, 3, "XYZW")},
		{"abc", "Xabc", edit(0, 0, "X")},
		{"abc", "abcX", edit(3, 0, "X")},
		{"abc", "bc", edit(0, 1, "")},
		{"abc", "ab", edit(2, 1, "")},
		{"abcdef", "aXcdYf", edit(1, 4, "XcdY")},
		// The same start ends within a code point of two, three and four bytes.
		{"a\u00e9", "a\u00e8", edit(1, 2, "\u00e8")},
		{"\u00e9b", "\u00e8b", edit(0, 2, "\u00e8")},
		{"\u20ac", "\u20ad", edit(0, 3, "\u20ad")},
		{"x\u20ac", "x\u2248", edit(1, 3, "\u2248")},
		{"a\U0001f642b", "a\U0001f643b", edit(1, 4, "\U0001f643")},
		{"\U0001f642", "\U0001f702", edit(0, 4, "\U0001f702")},
		{"\U0001f642", "\U00020642", edit(0, 4, "\U00020642")},
		{"\u00e9", "\u00e9\u00e8", edit(2, 0, "\u00e8")},
		{"\u00e9\u00e9", "\u00e9\u00e8", edit(2, 2, "\u00e8")},
		// The same end begins within a code point.
		{"\u00e9", "\u0129", edit(0, 2, "\u0129")},
		{"a\u00e9b", "a\u0129b", edit(1, 2, "\u0129")},
		{"\u20ac", "\u222c", edit(0, 3, "\u222c")},
		{"\u20ac", "\u10ac", edit(0, 3, "\u10ac")},
		{"\U0001f642z", "\U0001f602z", edit(0, 4, "\U0001f602")},
		{"\U0001f642z", "\U0005f642z", edit(0, 4, "\U0005f642")},
		{"\u00e9", "\u2029", edit(0, 2, "\u2029")},
		{"\u00e9c", "\U0001f629c", edit(0, 2, "\U0001f629")},
		// Both.
		{"\u20ac", "\u212c", edit(0, 3, "\u212c")},
		{"\u20ac\u20ac", "\u20ac\u212c\u20ac", edit(3, 0, "\u212c")},
		{"\u00e9\u0129", "\u00e9\u00e9\u0129", edit(2, 0, "\u00e9")},
		// The same start and the same end would overlap.
		{"aa", "aaa", edit(2, 0, "a")},
		{"aaa", "aa", edit(2, 1, "")},
		{"aaa", "a", edit(1, 2, "")},
		{"abcabc", "abc", edit(3, 3, "")},
		{"abc", "abcabc", edit(3, 0, "abc")},
		{"abab", "ababab", edit(4, 0, "ab")},
		{"aba", "ababa", edit(3, 0, "ba")},
		{"aXbXc", "aXc", edit(2, 2, "")},
		{"\u00e9\u00e9", "\u00e9\u00e9\u00e9", edit(4, 0, "\u00e9")},
		{"\u20ac\u20ac\u20ac", "\u20ac\u20ac", edit(6, 3, "")},
		{"\U0001f642", "\U0001f642\U0001f642", edit(4, 0, "\U0001f642")},
	}
	for _, x := range list {
		checkChange(t, x.was, x.is, x.want)
		checkOf(t, x.was, x.is)
	}
	if got, ok := impl.EditOf(nil, nil); !ok || !sameEdit(got, impl.Edit{}) {
		t.Errorf("EditOf %s, %v", editText(got), ok)
	}
}

func TestChangesBetweenAllSmallTexts(t *testing.T) {
	// Of these code points some begin with the same bytes, and some end with the same bytes.
	for _, texts := range [][]string{
		textsUpTo(4, "a", "\u00e9", "\u00e8"),
		textsUpTo(3, "a", "\u00e9", "\u0129", "\u2029"),
		textsUpTo(3, "\u20ac", "\u20ad", "\u222c", "\U0001f642"),
		textsUpTo(2, "a", "b", "\u00e9", "\U0001f642", "\U0001f643", "\U0001f602", "\U0005f642"),
		textsUpTo(6, "a", "b"),
	} {
		for i, was := range texts {
			for _, is := range texts[i:] {
				checkOf(t, was, is)
			}
		}
	}
}

func TestChangesBetweenLongTexts(t *testing.T) {
	random := rand.New(rand.NewSource(51))
	for range 300 {
		was, is := textOf(randomRope(random, 400)), textOf(randomRope(random, 400))
		checkOf(t, was, is)
		// A text that shares its start and its end with was.
		i, j := randomPlace(random, was), randomPlace(random, was)
		k := randomPlace(random, is)
		if mixed := was[:min(i, j)] + is[:k] + was[max(i, j):]; len(mixed) <= 400 {
			checkOf(t, was, mixed)
		}
	}
	for _, c := range append(wideRunes(), "a") {
		full := string(textOfBytes(400, c))
		checkOf(t, full, full)
		checkOf(t, full, "")
		checkOf(t, full, full[:400-len(c)])
		checkOf(t, full, strings.Repeat("X", 400))
		checkNoChange(t, full, full+"X")
		checkNoChange(t, full+"X", full)
		checkNoChange(t, full+"X", full+"X")
	}
}

func TestRandomEditsOfTexts(t *testing.T) {
	random := rand.New(rand.NewSource(52))
	for range 200 {
		text := textOf(randomRope(random, 400))
		now := text
		var list []impl.Edit
		for range 12 {
			i, j := randomPlace(random, now), randomPlace(random, now)
			e := edit(min(i, j), max(i, j)-min(i, j), textOf(randomRope(random, 1+random.Intn(60))))
			if random.Intn(30) == 0 {
				e.At = random.Intn(420) - 5
			}
			checkDo(t, now, e)
			list = append(list, e)
			if after, ok := modelDo(now, e); ok {
				now = after
			}
		}
		checkAll(t, text, list)
	}
}

func TestJoinedEdits(t *testing.T) {
	a := edit(3, 2, "XYZ")
	list := []struct {
		b    impl.Edit
		want string
	}{
		// At the start of what a has put, at the end, and inside.
		{edit(3, 0, "u"), "uXYZ"},
		{edit(3, 1, "u"), "uYZ"},
		{edit(3, 0, ""), "XYZ"},
		{edit(6, 0, "u"), "XYZu"},
		{edit(6, 0, ""), "XYZ"},
		{edit(5, 1, "u"), "XYu"},
		{edit(5, 1, ""), "XY"},
		{edit(4, 0, "uv"), "XuvYZ"},
		{edit(4, 1, "uv"), "XuvZ"},
		{edit(4, 2, ""), "X"},
		// All of it is cut.
		{edit(3, 3, ""), ""},
		{edit(3, 3, "u"), "u"},
		{edit(3, 3, "uvwxyz"), "uvwxyz"},
	}
	for _, x := range list {
		checkJoinedTo(t, a, x.b, edit(3, 2, x.want), true)
		checkEffect(t, "abcdefg", a, x.b)
		checkEffect(t, "abcde", a, x.b)
	}
	// One byte outside it on either side, and farther away.
	for _, put := range []string{"", "u"} {
		for _, b := range []impl.Edit{edit(2, 0, put), edit(2, 1, put), edit(2, 2, put), edit(2, 4, put), edit(2, 5, put), edit(7, 0, put), edit(6, 1, put), edit(5, 2, put), edit(3, 4, put), edit(4, 3, put), edit(0, 0, put), edit(0, 9, put), edit(8, 1, put), edit(400, 0, put), edit(0, 400, put)} {
			checkJoinedTo(t, a, b, impl.Edit{}, false)
		}
	}
	// Where a has put nothing there is one place.
	checkJoinedTo(t, edit(3, 2, ""), edit(3, 0, "u"), edit(3, 2, "u"), true)
	checkJoinedTo(t, edit(3, 2, ""), edit(3, 1, "u"), impl.Edit{}, false)
	checkJoinedTo(t, edit(3, 2, ""), edit(2, 0, "u"), impl.Edit{}, false)
	checkJoinedTo(t, edit(3, 2, ""), edit(4, 0, "u"), impl.Edit{}, false)
	checkJoinedTo(t, impl.Edit{}, impl.Edit{}, impl.Edit{}, true)
}

// Only the bytes count: neither a Put nor what remains of it needs to be a text.
func TestJoinedEditsWhosePutIsNoText(t *testing.T) {
	checkJoinedTo(t, edit(1, 0, "\u00e9"), edit(2, 0, "X"), edit(1, 0, "\xc3X\xa9"), true)
	checkJoinedTo(t, edit(1, 0, "\u00e9"), edit(2, 1, "\xa8"), edit(1, 0, "\u00e8"), true)
	checkJoinedTo(t, edit(1, 0, "\u20ac"), edit(2, 1, ""), edit(1, 0, "\xe2\xac"), true)
	checkJoinedTo(t, edit(1, 0, "\U0001f642"), edit(1, 3, ""), edit(1, 0, "\x82"), true)
	checkJoinedTo(t, edit(1, 0, "\xff\xc3"), edit(1, 1, "\xfe\x80"), edit(1, 0, "\xfe\x80\xc3"), true)
	checkJoinedTo(t, edit(1, 0, "\xc3"), edit(2, 0, "\xa9"), edit(1, 0, "\u00e9"), true)
	checkJoinedTo(t, edit(0, 400, "\xff"), edit(0, 1, "\xed\xa0\x80"), edit(0, 400, "\xed\xa0\x80"), true)
	checkJoinedTo(t, edit(1, 0, "\xff"), edit(1, 2, ""), impl.Edit{}, false)
}

func TestJoinedEditsOfTheGreatestLength(t *testing.T) {
	full := strings.Repeat("a", 400)
	for _, n := range []int{0, 1, 2, 100, 199, 200, 201, 399, 400} {
		put, rest := full[:n], strings.Repeat("b", 400-n)
		checkJoinedTo(t, edit(7, 0, put), edit(7, 0, rest), edit(7, 0, rest+put), true)
		checkJoinedTo(t, edit(0, 7, put), edit(n, 0, rest), edit(0, 7, put+rest), true)
		checkJoinedTo(t, edit(0, 7, put), edit(n, 0, rest+"b"), impl.Edit{}, false)
		checkJoinedTo(t, edit(7, 0, put), edit(7, 0, rest+"b"), impl.Edit{}, false)
		checkJoinedTo(t, edit(7, 0, put), edit(7, n, full), edit(7, 0, full), true)
		checkJoinedTo(t, edit(7, 0, put), edit(7, n, full+"a"), impl.Edit{}, false)
	}
}

func TestAllJoinsOfSmallEdits(t *testing.T) {
	for _, at := range []int{0, 1, 3} {
		for _, put := range []string{"", "X", "XY", "\u00e9Z", "\xff\xc3\x80"} {
			a := edit(at, at, put)
			for b := range 8 {
				for cut := range 8 {
					checkJoined(t, a, edit(b-1, cut-1, ""))
					checkJoined(t, a, edit(b-1, cut-1, "u"))
					checkJoined(t, a, edit(b-1, cut-1, "\u20ac"))
				}
			}
		}
	}
}

func TestJoinedEditsWithWrongFields(t *testing.T) {
	full := strings.Repeat("a", 400)
	// The greatest fields.
	checkJoinedTo(t, edit(400, 400, full), edit(400, 400, full), edit(400, 400, full), true)
	checkJoinedTo(t, edit(0, 400, full), edit(400, 0, ""), edit(0, 400, full), true)
	checkJoinedTo(t, edit(0, 0, full), edit(0, 400, ""), edit(0, 0, ""), true)
	checkJoinedTo(t, edit(400, 0, "a"), edit(400, 0, "b"), edit(400, 0, "ba"), true)
	// One field of 401, where b lies within what a has put nevertheless.
	checkJoinedTo(t, edit(401, 0, full), edit(401, 0, ""), impl.Edit{}, false)
	checkJoinedTo(t, edit(0, 401, full), edit(0, 0, ""), impl.Edit{}, false)
	checkJoinedTo(t, edit(0, 0, full+"a"), edit(0, 1, ""), impl.Edit{}, false)
	checkJoinedTo(t, edit(400, 0, full), edit(401, 0, ""), impl.Edit{}, false)
	checkJoinedTo(t, edit(0, 0, full+"a"), edit(0, 401, ""), impl.Edit{}, false)
	checkJoinedTo(t, edit(0, 0, full), edit(0, 400, full+"a"), impl.Edit{}, false)
	// Negative fields, where b lies within what a has put nevertheless.
	checkJoinedTo(t, edit(-1, 0, "abc"), edit(0, 1, ""), impl.Edit{}, false)
	checkJoinedTo(t, edit(-1, 0, "abc"), edit(-1, 1, ""), impl.Edit{}, false)
	checkJoinedTo(t, edit(0, -1, "abc"), edit(0, 1, ""), impl.Edit{}, false)
	checkJoinedTo(t, edit(0, 0, "abc"), edit(1, -1, ""), impl.Edit{}, false)
	checkJoinedTo(t, edit(0, 0, "abc"), edit(4, -1, ""), impl.Edit{}, false)
	checkJoinedTo(t, edit(math.MinInt, 0, "abc"), edit(math.MinInt, 1, ""), impl.Edit{}, false)
	for _, at := range limitNumbers() {
		for _, cut := range limitNumbers() {
			for _, b := range limitNumbers() {
				for _, put := range []string{"", "a", full} {
					checkJoined(t, edit(at, cut, put), edit(b, 0, "u"))
					checkJoined(t, edit(at, 0, put), edit(b, cut, ""))
					checkJoined(t, edit(at, 0, put), edit(at, cut, ""))
					checkJoined(t, edit(0, at, put), edit(b, cut, ""))
				}
			}
		}
	}
}

func TestRandomJoinedEdits(t *testing.T) {
	random := rand.New(rand.NewSource(53))
	for range 2000 {
		text := textOf(randomRope(random, 300))
		i, j := randomPlace(random, text), randomPlace(random, text)
		a := edit(min(i, j), max(i, j)-min(i, j), textOf(randomRope(random, 1+random.Intn(90))))
		after, ok := modelDo(text, a)
		if !ok {
			continue
		}
		put := string(a.Put)
		m, n := a.At+randomPlace(random, put), a.At+randomPlace(random, put)
		b := edit(min(m, n), max(m, n)-min(m, n), textOf(randomRope(random, 1+random.Intn(90))))
		checkJoined(t, a, b)
		// A long text may have no room left for b.
		if _, ok := modelDo(after, b); ok {
			checkEffect(t, text, a, b)
		}
		m, n = randomPlace(random, after), randomPlace(random, after)
		checkJoined(t, a, edit(min(m, n), max(m, n)-min(m, n), put))
	}
}

// roomyEdit is an edit with other bytes behind its Put, and what shows them.
func roomyEdit(at int, cut int, put string) (impl.Edit, impl.Rope) {
	r := roomyRope(put)
	return impl.Edit{At: at, Cut: cut, Put: r.Chunks[0].Data}, r
}

func TestEditsShareNoMemory(t *testing.T) {
	for _, text := range []string{"", "a", "a\u20ac\n", "abcdefghijklmnopqrstuvwxyz\u00e9\U0001f642"} {
		for _, put := range []string{"", "X", "XY\u20acabcdefghijklmnopqrstuvwxyz"} {
			places := wantBoundaries([]byte(text))
			for n, i := range places {
				for _, j := range places[n:] {
					checkOwnEdits(t, text, i, j, put)
				}
			}
			checkOwnChange(t, text, put)
			checkOwnChange(t, text, text)
			checkOwnChange(t, text+put, text+text)
			checkOwnChange(t, put+text, text)
		}
	}
}

// checkOwnEdits replaces the bytes i..j-1, in several ways.
func checkOwnEdits(t *testing.T, text string, i int, j int, put string) {
	t.Helper()
	calls := map[string]func(text []byte, e impl.Edit) []byte{
		"EditDo": func(text []byte, e impl.Edit) []byte {
			got, _ := impl.EditDo(text, e)
			return got
		},
		"EditBack": func(text []byte, e impl.Edit) []byte {
			got, _ := impl.EditBack(text, e)
			return got.Put
		},
		"EditsDo of no edits": func(text []byte, e impl.Edit) []byte {
			got, _ := impl.EditsDo(text, nil)
			return got
		},
		"EditsDo of one edit": func(text []byte, e impl.Edit) []byte {
			got, _ := impl.EditsDo(text, []impl.Edit{e})
			return got
		},
		"EditsDo with an invalid edit first": func(text []byte, e impl.Edit) []byte {
			got, _ := impl.EditsDo(text, []impl.Edit{edit(-1, 0, ""), e})
			return got
		},
		"EditsDo with an invalid edit last": func(text []byte, e impl.Edit) []byte {
			got, _ := impl.EditsDo(text, []impl.Edit{e, edit(-1, 0, "")})
			return got
		},
		"EditJoin of an edit and one in it": func(text []byte, e impl.Edit) []byte {
			got, _ := impl.EditJoin(impl.Edit{At: 0, Cut: 1, Put: text}, e)
			return got.Put
		},
		"EditJoin of an edit and what cuts it": func(text []byte, e impl.Edit) []byte {
			got, _ := impl.EditJoin(impl.Edit{Put: text}, impl.Edit{Cut: len(text), Put: e.Put})
			return got.Put
		},
	}
	for name, call := range calls {
		e, behind := roomyEdit(i, j-i, put)
		before := roomyRope(text)
		checkOwnRopes(t, name, func() []impl.Rope {
			return []impl.Rope{bytesAsRope(call(before.Chunks[0].Data, e))}
		}, before, behind)
	}
}

func checkOwnChange(t *testing.T, was string, is string) {
	t.Helper()
	a, b := roomyRope(was), roomyRope(is)
	x, y := a.Chunks[0].Data, b.Chunks[0].Data
	checkOwnRopes(t, "EditOf", func() []impl.Rope {
		got, _ := impl.EditOf(x, y)
		return []impl.Rope{bytesAsRope(got.Put)}
	}, a, b)
	c := roomyRope(is)
	z := c.Chunks[0].Data
	checkOwnRopes(t, "EditOf of a text and itself", func() []impl.Rope {
		got, _ := impl.EditOf(z, z)
		return []impl.Rope{bytesAsRope(got.Put)}
	}, c)
}

// The edits and the text may be parts of one slice, and have each other in their spare capacity.
func TestEditsOfPartsOfOneSlice(t *testing.T) {
	whole := []byte("abcdefghijklmnop\xff")
	was := string(whole)
	for i := range 9 {
		for j := i; j < 9; j++ {
			e := impl.Edit{At: i, Cut: j - i, Put: whole[i : j+1]}
			want, _ := modelDo(was[:9], edit(i, j-i, was[i:j+1]))
			if got, ok := impl.EditDo(whole[:9], e); !ok || string(got) != want {
				t.Fatalf("EditDo(%q, %s) = %q, want %q", was[:9], editText(e), got, want)
			}
			impl.EditBack(whole[:9], e)
			impl.EditsDo(whole[:9], []impl.Edit{e, e})
			impl.EditOf(whole[:9], whole[i:j])
			impl.EditJoin(impl.Edit{Put: whole[:9]}, e)
			if string(whole) != was {
				t.Fatalf("%q became %q", was, whole)
			}
		}
	}
}

func TestListsOfEditsAreNotModified(t *testing.T) {
	lists := [][]impl.Edit{
		{edit(0, 1, "X"), edit(1, 0, "\u00e9"), edit(2, 0, "Z"), edit(-1, 7, "\xff")},
		{edit(9, 0, ""), edit(0, 0, "a"), edit(math.MinInt, 0, ""), edit(0, 0, "b")},
	}
	for _, list := range lists {
		before := editTexts(list)
		for n := range len(list) + 1 {
			for _, text := range []string{"ab", "", "\xff"} {
				// The edits behind the end of the list are not applied.
				want, count := modelDoAll(text, list[:n])
				checkAllDone(t, text, list[:n], want, count)
			}
		}
		if after := editTexts(list); after != before {
			t.Errorf("%s became %s", before, after)
		}
	}
}

func TestBytesBehindEditsAreNotRead(t *testing.T) {
	text, put := []byte("a\u00e9\xff"), []byte("X\xff")
	e := impl.Edit{At: 1, Cut: 2, Put: put[:1]}
	if got, ok := impl.EditDo(text[:3], e); !ok || string(got) != "aX" || !impl.EditOk(text[:3], e) {
		t.Errorf("EditDo %q, %v", got, ok)
	}
	if got, ok := impl.EditBack(text[:3], e); !ok || !sameEdit(got, edit(1, 1, "\u00e9")) {
		t.Errorf("EditBack %s, %v", editText(got), ok)
	}
	if impl.EditOk(text[:3], impl.Edit{At: 3, Cut: 1}) || impl.EditOk(text[:2], impl.Edit{}) {
		t.Error("bytes behind the text are read")
	}
	if got, ok := impl.EditOf([]byte("abcX")[:3], []byte("abYX")[:3]); !ok || !sameEdit(got, edit(2, 1, "Y")) {
		t.Errorf("EditOf %s, %v", editText(got), ok)
	}
	if got, ok := impl.EditJoin(e, impl.Edit{At: 1, Cut: 2}); ok || !sameEdit(got, impl.Edit{}) {
		t.Errorf("EditJoin %s, %v", editText(got), ok)
	}
}

func TestWrongEditsModifyNothing(t *testing.T) {
	texts := []impl.Rope{roomyRope("ab\u00e9"), roomyRope(""), roomyRope("a\xff"), roomyRope(strings.Repeat("a", 401))}
	before := wholeRopes(texts)
	for _, x := range texts {
		for _, y := range texts {
			a, b := x.Chunks[0].Data, y.Chunks[0].Data
			for at := -1; at < 6; at++ {
				for cut := -1; cut < 6; cut++ {
					e := impl.Edit{At: at, Cut: cut, Put: b}
					impl.EditOk(a, e)
					impl.EditDo(a, e)
					impl.EditBack(a, e)
					impl.EditsDo(a, []impl.Edit{e, e})
					impl.EditJoin(impl.Edit{At: at, Put: a}, e)
				}
			}
			impl.EditOf(a, b)
		}
	}
	if after := wholeRopes(texts); after != before {
		t.Errorf("%s became %s", before, after)
	}
}
