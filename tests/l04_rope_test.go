package tests

import (
	"bytes"
	"fmt"
	"math"
	"math/rand"
	"slices"
	"strings"
	"testing"
	"unicode/utf8"

	"loop.example/g00677/impl"
)

// Ropes are written with a bar between their chunks.

func piecesOf(bars string) []string {
	if bars == "" {
		return nil
	}
	return strings.Split(bars, "|")
}

func barsOf(r impl.Rope) string {
	return strings.Join(textsFrom(r.Chunks), "|")
}

func ropeOf(bars string) impl.Rope {
	return impl.Rope{Chunks: chunksFrom(piecesOf(bars)...)}
}

func textOf(bars string) string {
	return strings.Join(piecesOf(bars), "")
}

// wantEdit follows the document sentence by sentence.
func wantEdit(bars string, at int, cut int, put string) (string, bool) {
	text := textOf(bars)
	places := wantBoundaries([]byte(text))
	if cut < 0 || cut > len(text) || !isText([]byte(put)) || !slices.Contains(places, at) || !slices.Contains(places, at+cut) || len(text)-cut+len(put) > 400 {
		return "", false
	}
	var before, after []string
	middle := put
	start := 0
	for _, c := range piecesOf(bars) {
		end := start + len(c)
		if end <= at {
			before = append(before, c)
		}
		if start >= at+cut {
			after = append(after, c)
		}
		if start < at && at < end {
			middle = text[start:at] + middle
		}
		if start < at+cut && at+cut < end {
			middle += text[at+cut : end]
		}
		start = end
	}
	return strings.Join(slices.Concat(before, wantChunks([]byte(middle)), after), "|"), true
}

// allNumbers are the numbers up to n and some outside.
func allNumbers(n int) []int {
	list := outsideOffsets(make([]byte, n))
	for i := range n + 1 {
		list = append(list, i)
	}
	return list
}

// allOffsets are the offsets in the text and some outside it.
func allOffsets(text string) []int {
	return allNumbers(len(text))
}

func checkRope(t *testing.T, bars string) {
	t.Helper()
	r := ropeOf(bars)
	text := textOf(bars)
	if !impl.RopeOk(r) {
		t.Fatalf("%q is not valid", bars)
	}
	if got := impl.RopeText(r); string(got) != text {
		t.Fatalf("RopeText(%q) = %q", bars, got)
	}
	if got := impl.RopeMeas(r); got != wantMeas([]byte(text)) {
		t.Fatalf("RopeMeas(%q) = %v", bars, got)
	}
}

func checkRopeOf(t *testing.T, data []byte) {
	t.Helper()
	r, ok := impl.RopeOf(data)
	if want := strings.Join(wantChunks(data), "|"); ok != isText(data) || barsOf(r) != want {
		t.Fatalf("RopeOf(%q) = %q, %v", data, barsOf(r), ok)
	}
	if ok {
		checkRope(t, barsOf(r))
	} else if r.Chunks != nil {
		t.Fatalf("RopeOf(%q) has chunks", data)
	}
}

func checkEdit(t *testing.T, bars string, at int, cut int, put string) {
	t.Helper()
	want, wantOk := wantEdit(bars, at, cut, put)
	checkEdited(t, bars, at, cut, put, want, wantOk)
}

func checkEdited(t *testing.T, bars string, at int, cut int, put string, want string, wantOk bool) {
	t.Helper()
	got, ok := impl.RopeEdit(ropeOf(bars), at, cut, []byte(put))
	if barsOf(got) != want || ok != wantOk {
		t.Fatalf("RopeEdit(%q, %d, %d, %q) = %q, %v, want %q, %v", bars, at, cut, put, barsOf(got), ok, want, wantOk)
	}
	if !ok {
		if got.Chunks != nil {
			t.Fatalf("RopeEdit(%q, %d, %d, %q) has chunks", bars, at, cut, put)
		}
		return
	}
	text := textOf(bars)
	if after := impl.RopeText(got); string(after) != text[:at]+put+text[at+cut:] || !impl.RopeOk(got) {
		t.Fatalf("RopeEdit(%q, %d, %d, %q) has the text %q", bars, at, cut, put, after)
	}
}

func checkSlice(t *testing.T, bars string, i int, j int) {
	t.Helper()
	text := textOf(bars)
	places := wantBoundaries([]byte(text))
	want, wantOk := "", false
	if slices.Contains(places, i) && slices.Contains(places, j) && i <= j {
		want, wantOk = text[i:j], true
	}
	if got, ok := impl.RopeSlice(ropeOf(bars), i, j); string(got) != want || ok != wantOk || !ok && got != nil {
		t.Fatalf("RopeSlice(%q, %d, %d) = %q, %v", bars, i, j, got, ok)
	}
}

func checkSplit(t *testing.T, bars string, at int) {
	t.Helper()
	text := textOf(bars)
	wantFront, _ := wantEdit(bars, at, len(text)-at, "")
	wantBack, wantOk := wantEdit(bars, 0, at, "")
	front, back, ok := impl.RopeSplit(ropeOf(bars), at)
	if barsOf(front) != wantFront || barsOf(back) != wantBack || ok != wantOk {
		t.Fatalf("RopeSplit(%q, %d) = %q, %q, %v, want %q, %q, %v", bars, at, barsOf(front), barsOf(back), ok, wantFront, wantBack, wantOk)
	}
	if !ok {
		if front.Chunks != nil || back.Chunks != nil {
			t.Fatalf("RopeSplit(%q, %d) has chunks", bars, at)
		}
		return
	}
	if a, b := impl.RopeText(front), impl.RopeText(back); string(a) != text[:at] || string(b) != text[at:] {
		t.Fatalf("RopeSplit(%q, %d) has the texts %q and %q", bars, at, a, b)
	}
	joined, ok := impl.RopeJoin(front, back)
	if !ok || string(impl.RopeText(joined)) != text {
		t.Fatalf("%q, split at %d and joined, becomes %q", bars, at, barsOf(joined))
	}
}

func checkJoin(t *testing.T, a string, b string) {
	t.Helper()
	want := strings.Join(slices.Concat(piecesOf(a), piecesOf(b)), "|")
	wantOk := len(textOf(want)) <= 400
	if !wantOk {
		want = ""
	}
	got, ok := impl.RopeJoin(ropeOf(a), ropeOf(b))
	if barsOf(got) != want || ok != wantOk || !ok && got.Chunks != nil {
		t.Fatalf("RopeJoin(%q, %q) = %q, %v", a, b, barsOf(got), ok)
	}
	if ok && string(impl.RopeText(got)) != textOf(a)+textOf(b) {
		t.Fatalf("RopeJoin(%q, %q) has the text %q", a, b, impl.RopeText(got))
	}
}

// wantFinds tries one offset after the other.
func wantFinds(text string, p string, at int) (int, int) {
	first, last := -1, -1
	if p == "" || !isText([]byte(p)) || !slices.Contains(wantBoundaries([]byte(text)), at) {
		return first, last
	}
	for i := range len(text) {
		found := strings.HasPrefix(text[i:], p)
		if found && i >= at && first < 0 {
			first = i
		}
		if found && i <= at {
			last = i
		}
	}
	return first, last
}

func checkFinds(t *testing.T, bars string, p string, at int) {
	t.Helper()
	first, last := wantFinds(textOf(bars), p, at)
	if got := impl.RopeFind(ropeOf(bars), []byte(p), at); got != first {
		t.Fatalf("RopeFind(%q, %q, %d) = %d, want %d", bars, p, at, got, first)
	}
	if got := impl.RopeFindBack(ropeOf(bars), []byte(p), at); got != last {
		t.Fatalf("RopeFindBack(%q, %q, %d) = %d, want %d", bars, p, at, got, last)
	}
}

// wantLine counts from the start of the text.
func wantLine(text string, at int) (int, int) {
	if !slices.Contains(wantBoundaries([]byte(text)), at) {
		return -1, -1
	}
	lines := strings.Split(text[:at], "\n")
	return len(lines) - 1, utf8.RuneCountInString(lines[len(lines)-1])
}

// checkLines asserts RopeLine for all offsets, and that RopePlace is its inverse.
func checkLines(t *testing.T, bars string) {
	t.Helper()
	text := textOf(bars)
	r := ropeOf(bars)
	places := map[[2]int]int{}
	for _, at := range allOffsets(text) {
		line, col := wantLine(text, at)
		if gotLine, gotCol := impl.RopeLine(r, at); gotLine != line || gotCol != col {
			t.Fatalf("RopeLine(%q, %d) = %d, %d, want %d, %d", bars, at, gotLine, gotCol, line, col)
		}
		if line >= 0 {
			places[[2]int{line, col}] = at
		}
	}
	if len(places) != utf8.RuneCountInString(text)+1 {
		t.Fatalf("%q has %d places", bars, len(places))
	}
	lines := strings.Split(text, "\n")
	for _, line := range allNumbers(len(lines)) {
		width := 0
		if line >= 0 && line < len(lines) {
			width = utf8.RuneCountInString(lines[line])
		}
		for _, col := range allNumbers(width) {
			checkRopePlace(t, bars, r, places, line, col)
		}
	}
}

func checkRopePlace(t *testing.T, bars string, r impl.Rope, places map[[2]int]int, line int, col int) {
	t.Helper()
	want, found := places[[2]int{line, col}]
	if !found {
		want = -1
	}
	if got := impl.RopePlace(r, line, col); got != want {
		t.Fatalf("RopePlace(%q, %d, %d) = %d, want %d", bars, line, col, got, want)
	}
}

// someRopes are short enough for all edits of them to be tried; most of them are not what RopeOf returns.
func someRopes() []string {
	return []string{
		"",
		"a",
		"\n",
		"\u00e9",
		"a|b",
		"\n|\n|\n",
		"ab\n|c\u00e9|\u20ac|\U0001f642",
		"abcdefghijklmnop",
		"abcdefghijklmnop|q",
		"abcdefghijklmnop|qrst",
		"a|abcdefghijklmnop|b|\u20ac\u20ac\u20ac\u20ac\u20ac",
		"\U0001f642\U0001f642\U0001f642\U0001f642|\u00e9\u00e9|\U0001f642\U0001f642\U0001f642\U0001f642",
		"aa|aaa|a|aaaa",
		"ab|ab|\nab|a|b",
	}
}

func randomChunk(random *rand.Rand) string {
	choice := append(wideRunes(), "a", "b", "c", "\n", "\n")
	chunk := choice[random.Intn(len(choice))]
	for {
		next := choice[random.Intn(len(choice))]
		if len(chunk)+len(next) > 16 || random.Intn(8) == 0 {
			return chunk
		}
		chunk += next
	}
}

func randomRope(random *rand.Rand, most int) string {
	var pieces []string
	for bytes := 0; random.Intn(40) > 0; {
		chunk := randomChunk(random)
		bytes += len(chunk)
		if bytes > most {
			break
		}
		pieces = append(pieces, chunk)
	}
	return strings.Join(pieces, "|")
}

func randomPlace(random *rand.Rand, text string) int {
	places := wantBoundaries([]byte(text))
	return places[random.Intn(len(places))]
}

func TestRopeExamples(t *testing.T) {
	r, ok := impl.RopeOf([]byte("abcdefghijklmnopqrst"))
	if !ok || barsOf(r) != "abcdefghijklmnop|qrst" {
		t.Fatalf("RopeOf %q", barsOf(r))
	}
	edited, ok := impl.RopeEdit(r, 2, 1, []byte("XY"))
	if !ok || barsOf(edited) != "abXYdefghijklmno|p|qrst" {
		t.Errorf("RopeEdit %q", barsOf(edited))
	}
	if got, ok := impl.RopeSlice(r, 14, 18); !ok || string(got) != "opqr" {
		t.Errorf("RopeSlice %q", got)
	}
	r, _ = impl.RopeOf([]byte("ab\nab\u00e9\nb"))
	if got := impl.RopeFind(r, []byte("ab"), 1); got != 3 {
		t.Error("RopeFind", got)
	}
	if got := impl.RopeFindBack(r, []byte("b"), 7); got != 4 {
		t.Error("RopeFindBack", got)
	}
	if line, col := impl.RopeLine(r, 7); line != 1 || col != 3 {
		t.Error("RopeLine", line, col)
	}
	if a, b := impl.RopePlace(r, 1, 3), impl.RopePlace(r, 1, 4); a != 7 || b != -1 {
		t.Error("RopePlace", a, b)
	}
}

func TestRopesOfTexts(t *testing.T) {
	for _, c := range append(wideRunes(), "a", "\n") {
		for _, n := range []int{0, 1, 4, 15, 16, 17, 32, 33, 399, 400, 401, 402, 4000} {
			checkRopeOf(t, textOfBytes(n, c))
		}
	}
	checkRopeOf(t, nil)
	for _, data := range []string{"\xff", "\xc0\x80", "a\xe2\x82", "\xa9", "\xed\xa0\x80", "abcdefghijklmnop\xc3", strings.Repeat("a", 399) + "\xc3"} {
		checkRopeOf(t, []byte(data))
	}
	random := rand.New(rand.NewSource(41))
	for range 300 {
		// The bar stands between the chunks.
		checkRopeOf(t, bytes.ReplaceAll(randomText(random), []byte("|"), []byte("/")))
	}
}

func TestValidRopes(t *testing.T) {
	for _, bars := range someRopes() {
		checkRope(t, bars)
	}
	checkRope(t, strings.Repeat("abcdefghijklmnop|", 24)+"abcdefghijklmno\n")
	checkRope(t, strings.Repeat("\n|", 399)+"\n")
	if impl.RopeText(impl.Rope{}) != nil && len(impl.RopeText(impl.Rope{})) != 0 {
		t.Error("the empty rope has a text")
	}
	if got := impl.RopeMeas(ropeOf("a\n|\u20ac\n|\U0001f642")); got != (impl.Meas{Bytes: 10, Runes: 5, Lines: 2}) {
		t.Error("RopeMeas", got)
	}
}

func TestEditsAtTheEdgesOfChunks(t *testing.T) {
	const rope = "abcdefghijklmnop|qrst"
	const short = "ab|cd|ef"
	edits := []struct {
		bars    string
		at, cut int
		put     string
		want    string
	}{
		// The empty rope.
		{"", 0, 0, "", ""},
		{"", 0, 0, "x", "x"},
		{"", 0, 0, "abcdefghijklmnopq", "abcdefghijklmnop|q"},
		// At the start and at the end nothing is cut.
		{rope, 0, 0, "X", "X|abcdefghijklmnop|qrst"},
		{rope, 20, 0, "X", "abcdefghijklmnop|qrst|X"},
		{short, 0, 0, "X", "X|ab|cd|ef"},
		{short, 6, 0, "X", "ab|cd|ef|X"},
		// At the edge of a chunk.
		{rope, 16, 0, "X", "abcdefghijklmnop|X|qrst"},
		{short, 2, 0, "X", "ab|X|cd|ef"},
		{short, 4, 0, "X", "ab|cd|X|ef"},
		// Up to the edge from the left, and from the edge to the right.
		{rope, 15, 1, "X", "abcdefghijklmnoX|qrst"},
		{rope, 15, 1, "XY", "abcdefghijklmnoX|Y|qrst"},
		{rope, 16, 1, "X", "abcdefghijklmnop|Xrst"},
		{short, 1, 1, "X", "aX|cd|ef"},
		{short, 2, 1, "X", "ab|Xd|ef"},
		{short, 3, 1, "X", "ab|cX|ef"},
		{short, 2, 2, "X", "ab|X|ef"},
		{short, 0, 2, "X", "X|cd|ef"},
		{short, 4, 2, "X", "ab|cd|X"},
		// Over the edge.
		{rope, 15, 2, "", "abcdefghijklmnor|st"},
		{rope, 15, 2, "X", "abcdefghijklmnoX|rst"},
		{short, 1, 2, "X", "aXd|ef"},
		{short, 1, 3, "X", "aX|ef"},
		{short, 2, 3, "X", "ab|Xf"},
		// Inside one chunk.
		{rope, 1, 0, "X", "aXbcdefghijklmno|p|qrst"},
		{rope, 17, 2, "XY", "abcdefghijklmnop|qXYt"},
		{short, 3, 0, "X", "ab|cXd|ef"},
		// Over several chunks and over all of them.
		{short, 1, 4, "X", "aXf"},
		{short, 1, 5, "X", "aX"},
		{short, 0, 5, "X", "Xf"},
		{short, 0, 6, "X", "X"},
		{short, 0, 6, "", ""},
		{rope, 0, 20, "", ""},
		{rope, 1, 18, "", "at"},
		// A cut with an empty put.
		{short, 0, 1, "", "b|cd|ef"},
		{short, 2, 2, "", "ab|ef"},
		{short, 1, 2, "", "ad|ef"},
		{short, 5, 1, "", "ab|cd|e"},
		// Neither a cut nor a put.
		{rope, 0, 0, "", rope},
		{rope, 7, 0, "", rope},
		{rope, 16, 0, "", rope},
		{rope, 20, 0, "", rope},
		{short, 3, 0, "", short},
		{short, 4, 0, "", short},
		// A put of more than one chunk.
		{short, 2, 0, "ABCDEFGHIJKLMNOPQ", "ab|ABCDEFGHIJKLMNOP|Q|cd|ef"},
		{short, 3, 0, "ABCDEFGHIJKLMNOPQ", "ab|cABCDEFGHIJKLMNO|PQd|ef"},
		{short, 1, 4, "ABCDEFGHIJKLMNOPQ", "aABCDEFGHIJKLMNO|PQf"},
		{short, 2, 2, "ABCDEFGHIJKLMNOP", "ab|ABCDEFGHIJKLMNOP|ef"},
		// A code point of the put that does not fit goes into the next chunk.
		{"abcdefghijklmnop", 14, 2, "\u20ac", "abcdefghijklmn|\u20ac"},
		{"abcdefghijklmnop", 13, 3, "\u20ac", "abcdefghijklm\u20ac"},
		{"\u00e9\u20ac|\U0001f642", 2, 3, "\U0001f642", "\u00e9\U0001f642|\U0001f642"},
		{"\u00e9\u20ac|\U0001f642", 5, 4, "", "\u00e9\u20ac"},
		{"\u00e9\u20ac|\U0001f642", 2, 7, "", "\u00e9"},
	}
	for _, x := range edits {
		checkEdited(t, x.bars, x.at, x.cut, x.put, x.want, true)
		checkEdit(t, x.bars, x.at, x.cut, x.put)
	}
}

func TestAllEditsOfSomeRopes(t *testing.T) {
	puts := []string{"", "X", "\u00e9\n", "ABCDEFGHIJKLMNO\U0001f642", "\xc3", strings.Repeat("a", 401)}
	for _, bars := range someRopes() {
		for _, at := range allOffsets(textOf(bars)) {
			for _, cut := range allOffsets(textOf(bars)) {
				for _, put := range puts {
					checkEdit(t, bars, at, cut, put)
				}
			}
		}
	}
}

func TestRandomEdits(t *testing.T) {
	random := rand.New(rand.NewSource(42))
	for range 300 {
		bars := randomRope(random, 400)
		for range 20 {
			text := textOf(bars)
			at, end := randomPlace(random, text), randomPlace(random, text)
			put := textOf(randomRope(random, 1+random.Intn(100)))
			checkEdit(t, bars, min(at, end), max(at, end)-min(at, end), put)
			checkEdit(t, bars, at, 0, put)
			checkEdit(t, bars, min(at, end), max(at, end)-min(at, end), "")
			if edited, ok := impl.RopeEdit(ropeOf(bars), min(at, end), max(at, end)-min(at, end), []byte(put)); ok {
				bars = barsOf(edited)
			}
		}
	}
}

func TestEditsUpToTheGreatestLength(t *testing.T) {
	full := strings.TrimSuffix(strings.Repeat("abcdefghijklmnop|", 25), "|")
	checkRope(t, full)
	for at := range 401 {
		checkEdited(t, full, at, 0, "", full, true)
		checkEdited(t, full, at, 0, "X", "", false)
		checkEdit(t, full, at, 400-at, strings.Repeat("X", 400-at))
		checkEdit(t, full, at, 400-at, strings.Repeat("X", 401-at))
		checkEdit(t, full, 0, at, strings.Repeat("X", at))
		checkEdit(t, full, 0, at, strings.Repeat("X", at+1))
		checkEdit(t, "", 0, 0, strings.Repeat("\n", at))
	}
	checkEdited(t, full, 0, 400, strings.Repeat("X", 401), "", false)
	checkEdited(t, "", 0, 0, strings.Repeat("X", 401), "", false)
	almost := strings.TrimSuffix(full, "p")
	checkEdited(t, almost, 399, 0, "X", almost+"|X", true)
	checkEdited(t, almost, 399, 0, "XY", "", false)
	checkEdited(t, almost, 398, 0, "X", strings.TrimSuffix(almost, "o")+"Xo", true)
	checkEdited(t, almost, 398, 0, "\u00e9", "", false)
}

func TestEditsOutsideTheText(t *testing.T) {
	const rope = "ab\u00e9|\U0001f642\n"
	numbers := append(allOffsets(textOf(rope)), math.MinInt+1, math.MinInt+4, math.MaxInt-2, math.MaxInt-9, math.MaxInt/2+1, math.MinInt/2)
	for _, at := range numbers {
		for _, cut := range numbers {
			checkEdit(t, rope, at, cut, "X")
			checkEdit(t, "", at, cut, "")
			checkEdit(t, "abcdefghijklmnop|qrst", at, cut, "")
		}
	}
	for _, wrong := range [][3]int{{-1, 1}, {-1, 2}, {0, -1}, {2, -2}, {9, 1}, {9, -1}, {10, 0}, {10, -1}, {3, 1}, {2, 1}, {3, 0}, {5, 3}, {4, 1}, {math.MaxInt, 1}, {math.MaxInt, -1}, {1, math.MaxInt}, {0, math.MaxInt}, {4, math.MinInt}, {math.MinInt, math.MinInt}, {math.MinInt, math.MaxInt}} {
		checkEdited(t, rope, wrong[0], wrong[1], "", "", false)
		checkEdited(t, rope, wrong[0], wrong[1], "X", "", false)
	}
}

func TestPutsThatAreNoText(t *testing.T) {
	for _, put := range []string{"\xff", "\xc3", "\xa9", "\xc0\x80", "a\xe2\x82", "\xed\xa0\x80", "\xf4\x90\x80\x80", strings.Repeat("a", 401), strings.Repeat("\U0001f642", 101)} {
		for _, bars := range someRopes() {
			for at := range len(textOf(bars)) + 1 {
				checkEdited(t, bars, at, 0, put, "", false)
				checkEdited(t, bars, 0, at, put, "", false)
			}
		}
	}
}

func TestSlices(t *testing.T) {
	list := []struct {
		bars string
		i, j int
		want string
	}{
		{"abcdefghijklmnop|qrst", 0, 0, ""},
		{"abcdefghijklmnop|qrst", 0, 20, "abcdefghijklmnopqrst"},
		{"abcdefghijklmnop|qrst", 0, 16, "abcdefghijklmnop"},
		{"abcdefghijklmnop|qrst", 16, 20, "qrst"},
		{"abcdefghijklmnop|qrst", 16, 16, ""},
		{"abcdefghijklmnop|qrst", 15, 16, "p"},
		{"abcdefghijklmnop|qrst", 15, 17, "pq"},
		{"abcdefghijklmnop|qrst", 20, 20, ""},
		{"ab|cd|ef", 1, 5, "bcde"},
		{"ab|cd|ef", 2, 4, "cd"},
		{"ab|cd|ef", 3, 4, "d"},
		{"\u00e9\u20ac|\U0001f642", 2, 9, "\u20ac\U0001f642"},
		{"", 0, 0, ""},
	}
	for _, x := range list {
		if got, ok := impl.RopeSlice(ropeOf(x.bars), x.i, x.j); !ok || string(got) != x.want {
			t.Errorf("RopeSlice(%q, %d, %d) = %q, %v", x.bars, x.i, x.j, got, ok)
		}
	}
	for _, bars := range someRopes() {
		for _, i := range allOffsets(textOf(bars)) {
			for _, j := range allOffsets(textOf(bars)) {
				checkSlice(t, bars, i, j)
			}
		}
	}
}

func TestSplits(t *testing.T) {
	list := []struct {
		bars        string
		at          int
		front, back string
	}{
		{"", 0, "", ""},
		{"abcdefghijklmnop|qrst", 0, "", "abcdefghijklmnop|qrst"},
		{"abcdefghijklmnop|qrst", 20, "abcdefghijklmnop|qrst", ""},
		{"abcdefghijklmnop|qrst", 16, "abcdefghijklmnop", "qrst"},
		{"abcdefghijklmnop|qrst", 15, "abcdefghijklmno", "p|qrst"},
		{"abcdefghijklmnop|qrst", 17, "abcdefghijklmnop|q", "rst"},
		{"ab|cd|ef", 3, "ab|c", "d|ef"},
		{"ab|cd|ef", 4, "ab|cd", "ef"},
		{"a\u20ac|\u00e9", 1, "a", "\u20ac|\u00e9"},
	}
	for _, x := range list {
		if front, back, ok := impl.RopeSplit(ropeOf(x.bars), x.at); !ok || barsOf(front) != x.front || barsOf(back) != x.back {
			t.Errorf("RopeSplit(%q, %d) = %q, %q, %v", x.bars, x.at, barsOf(front), barsOf(back), ok)
		}
	}
	for _, bars := range someRopes() {
		for _, at := range allOffsets(textOf(bars)) {
			checkSplit(t, bars, at)
		}
	}
	random := rand.New(rand.NewSource(43))
	for range 200 {
		bars := randomRope(random, 400)
		for range 10 {
			checkSplit(t, bars, random.Intn(402)-1)
			checkSplit(t, bars, randomPlace(random, textOf(bars)))
			checkSlice(t, bars, randomPlace(random, textOf(bars)), randomPlace(random, textOf(bars)))
		}
	}
}

func TestJoins(t *testing.T) {
	if got, ok := impl.RopeJoin(ropeOf("ab|c"), ropeOf("d|\u00e9")); !ok || barsOf(got) != "ab|c|d|\u00e9" {
		t.Errorf("RopeJoin %q, %v", barsOf(got), ok)
	}
	for _, a := range someRopes() {
		for _, b := range someRopes() {
			checkJoin(t, a, b)
		}
	}
	for n := range 401 {
		a := strings.Join(wantChunks(textOfBytes(n, "a")), "|")
		checkJoin(t, a, strings.Join(wantChunks(textOfBytes(400-n, "\u00e9")), "|"))
		checkJoin(t, a, strings.Join(wantChunks(textOfBytes(min(401-n, 400), "\u00e9")), "|"))
		checkJoin(t, a, a)
	}
	for _, n := range []int{1, 199, 200, 201, 400} {
		long := strings.TrimSuffix(strings.Repeat("a|", n), "|")
		checkJoin(t, long, strings.TrimSuffix(strings.Repeat("b|", 400-n), "|"))
		checkJoin(t, long, strings.TrimSuffix(strings.Repeat("b|", min(401-n, 400)), "|"))
		checkJoin(t, long, long)
	}
}

func TestFinds(t *testing.T) {
	list := []struct {
		bars, p     string
		at          int
		first, last int
	}{
		{"", "a", 0, -1, -1},
		{"abc", "a", 0, 0, 0},
		{"abc", "c", 0, 2, -1},
		{"abc", "c", 3, -1, 2},
		{"abc", "c", 2, 2, 2},
		{"abc", "x", 0, -1, -1},
		// Over the edge of a chunk.
		{"abcdefghijklmnop|qrst", "pq", 0, 15, -1},
		{"abcdefghijklmnop|qrst", "pq", 15, 15, 15},
		{"abcdefghijklmnop|qrst", "pq", 16, -1, 15},
		{"abcdefghijklmnop|qrst", "pq", 14, 15, -1},
		{"abcdefghijklmnop|qrst", "q", 16, 16, 16},
		{"a|b|c|d", "bcd", 0, 1, -1},
		// Occurrences that overlap.
		{"aaa|aaaa", "aaa", 0, 0, 0},
		{"aaa|aaaa", "aaa", 1, 1, 1},
		{"aaa|aaaa", "aaa", 4, 4, 4},
		{"aaa|aaaa", "aaa", 5, -1, 4},
		{"aaa|aaaa", "aaa", 7, -1, 4},
		{"abababa", "aba", 1, 2, 0},
		{"abababa", "aba", 3, 4, 2},
		// As long as the text and longer.
		{"ab|c", "abc", 0, 0, 0},
		{"ab|c", "abc", 1, -1, 0},
		{"ab|c", "abc", 3, -1, 0},
		{"ab|c", "abcd", 0, -1, -1},
		{"ab|c", "abcd", 3, -1, -1},
		{"ab|c", strings.Repeat("a", 400), 3, -1, -1},
		// Code points of two, three and four bytes.
		{"\u00e9\u20ac|\U0001f642\u00e9", "\u00e9", 0, 0, 0},
		{"\u00e9\u20ac|\U0001f642\u00e9", "\u00e9", 2, 9, 0},
		{"\u00e9\u20ac|\U0001f642\u00e9", "\u00e9", 11, -1, 9},
		{"\u00e9\u20ac|\U0001f642\u00e9", "\u20ac\U0001f642", 0, 2, -1},
		{"\u00e9\u20ac|\U0001f642\u00e9", "\u20ac\U0001f642", 2, 2, 2},
		{"a\n|\nb", "\n\n", 0, 1, -1},
		// No boundaries, and no offsets.
		{"\u00e9\u00e9", "\u00e9", 1, -1, -1},
		{"\u00e9\u00e9", "\u00e9", 3, -1, -1},
		{"\u00e9\u00e9", "\u00e9", 5, -1, -1},
		{"\u00e9\u00e9", "\u00e9", -1, -1, -1},
		{"\u00e9\u00e9", "\u00e9", math.MaxInt, -1, -1},
		{"\u00e9\u00e9", "\u00e9", math.MinInt, -1, -1},
		// Patterns that are no text, though their bytes occur, and the empty one.
		{"\u00e9\u00e9", "\xc3", 0, -1, -1},
		{"\u00e9\u00e9", "\xa9", 4, -1, -1},
		{"\u00e9\u00e9", "\xa9\xc3", 0, -1, -1},
		{"\u00e9\u00e9", "\xff", 0, -1, -1},
		{"abc", "", 0, -1, -1},
		{"abc", "", 3, -1, -1},
		{"", "", 0, -1, -1},
		{"abc", strings.Repeat("a", 401), 0, -1, -1},
	}
	for _, x := range list {
		if got := impl.RopeFind(ropeOf(x.bars), []byte(x.p), x.at); got != x.first {
			t.Errorf("RopeFind(%q, %q, %d) = %d, want %d", x.bars, x.p, x.at, got, x.first)
		}
		if got := impl.RopeFindBack(ropeOf(x.bars), []byte(x.p), x.at); got != x.last {
			t.Errorf("RopeFindBack(%q, %q, %d) = %d, want %d", x.bars, x.p, x.at, got, x.last)
		}
	}
}

func TestEveryPartOfSomeRopesIsFound(t *testing.T) {
	for _, bars := range someRopes() {
		text := textOf(bars)
		for i := range len(text) + 1 {
			for j := i; j <= len(text); j++ {
				for _, at := range allOffsets(text) {
					checkFinds(t, bars, text[i:j], at)
				}
			}
		}
		for _, at := range allOffsets(text) {
			checkFinds(t, bars, "x", at)
			checkFinds(t, bars, text+"x", at)
			checkFinds(t, bars, "x"+text, at)
			checkFinds(t, bars, text+text, at)
		}
	}
}

func TestFindsInLongRopes(t *testing.T) {
	full := strings.TrimSuffix(strings.Repeat("aaaaaaaaaaaaaaaa|", 25), "|")
	for _, n := range []int{1, 2, 16, 17, 399, 400, 401} {
		p := strings.Repeat("a", n)
		for at := range 402 {
			checkFinds(t, full, p, at-1)
		}
	}
	random := rand.New(rand.NewSource(44))
	for range 100 {
		bars := randomRope(random, 400)
		text := textOf(bars)
		for range 20 {
			i, j := randomPlace(random, text), randomPlace(random, text)
			p := text[min(i, j):max(i, j)]
			checkFinds(t, bars, p[:min(len(p), 1+random.Intn(6))], randomPlace(random, text))
			checkFinds(t, bars, p, randomPlace(random, text))
		}
	}
}

func TestLines(t *testing.T) {
	const rope = "\n\na|b\u00e9\n|\u20ac\U0001f642\n"
	list := []struct{ at, line, col int }{{0, 0, 0}, {1, 1, 0}, {2, 2, 0}, {3, 2, 1}, {4, 2, 2}, {6, 2, 3}, {7, 3, 0}, {10, 3, 1}, {14, 3, 2}, {15, 4, 0}}
	r := ropeOf(rope)
	for _, x := range list {
		if line, col := impl.RopeLine(r, x.at); line != x.line || col != x.col {
			t.Errorf("RopeLine %d is %d, %d", x.at, line, col)
		}
		if got := impl.RopePlace(r, x.line, x.col); got != x.at {
			t.Errorf("RopePlace %d, %d is %d", x.line, x.col, got)
		}
	}
	for _, at := range []int{math.MinInt, -1, 5, 8, 9, 11, 12, 13, 16, 400, math.MaxInt} {
		if line, col := impl.RopeLine(r, at); line != -1 || col != -1 {
			t.Errorf("RopeLine %d is %d, %d", at, line, col)
		}
	}
	none := [][2]int{{0, 1}, {1, 1}, {2, 4}, {3, 3}, {4, 1}, {5, 0}, {6, 0}, {-1, 0}, {0, -1}, {2, -1}, {-1, -1}, {math.MaxInt, 0}, {math.MinInt, 0}, {0, math.MaxInt}, {4, math.MaxInt}, {0, math.MinInt}, {math.MaxInt, math.MaxInt}, {math.MinInt, math.MinInt}}
	for _, x := range none {
		if got := impl.RopePlace(r, x[0], x[1]); got != -1 {
			t.Errorf("RopePlace %d, %d is %d", x[0], x[1], got)
		}
	}
}

func TestLinesOfTheEmptyRope(t *testing.T) {
	checkLines(t, "")
	if line, col := impl.RopeLine(impl.Rope{}, 0); line != 0 || col != 0 {
		t.Error("RopeLine", line, col)
	}
	if a, b, c := impl.RopePlace(impl.Rope{}, 0, 0), impl.RopePlace(impl.Rope{}, 0, 1), impl.RopePlace(impl.Rope{}, 1, 0); a != 0 || b != -1 || c != -1 {
		t.Error("RopePlace", a, b, c)
	}
}

func TestLinesAndPlacesAreInverse(t *testing.T) {
	for _, bars := range someRopes() {
		checkLines(t, bars)
	}
	// What other programs take for the end of a line is none here.
	checkLines(t, "a\r\nb\rc|\v\f|\u0085\u2028\u2029|\u010a\u0a0a")
	checkLines(t, "\n\n|\n\n\n")
	checkLines(t, "ab\n|\n|cd")
	checkLines(t, "ab|\ncd\n")
	checkLines(t, strings.Repeat("\n|", 399)+"\n")
	checkLines(t, strings.TrimSuffix(strings.Repeat("abcdefghijklmnop|", 25), "|"))
	random := rand.New(rand.NewSource(45))
	for range 60 {
		checkLines(t, randomRope(random, 400))
	}
}

// invalidRopes are no texts, or their concatenation is one but their chunks are none.
func invalidRopes() []impl.Rope {
	var list []impl.Rope
	for _, texts := range [][]string{
		{""},
		{"a", ""},
		{"", "a"},
		{"a", "", "b"},
		{"abcdefghijklmnopq"},
		{"a", "abcdefghijklmnopq", "b"},
		{"\U0001f642\U0001f642\U0001f642\U0001f642\n"},
		{"\xff"},
		{"a\n", "\xff", "b"},
		{"\xc3", "\xa9"},
		{"a", "\xe2\x82", "\xac"},
		{"\xc0\x80"},
		append(slices.Repeat([]string{"abcdefghijklmnop"}, 25), "a"),
		byteTexts(401),
		slices.Repeat([]string{"\U0001f642"}, 101),
	} {
		list = append(list, impl.Rope{Chunks: chunksFrom(texts...)})
	}
	return list
}

func TestInvalidRopes(t *testing.T) {
	for _, r := range invalidRopes() {
		if impl.RopeOk(r) {
			t.Fatalf("%q is valid", barsOf(r))
		}
		if text, meas := impl.RopeText(r), impl.RopeMeas(r); text != nil || meas != (impl.Meas{}) {
			t.Fatalf("%q has the text %q and the measure %v", barsOf(r), text, meas)
		}
		end := len(strings.Join(textsFrom(r.Chunks), ""))
		offsets := []int{math.MinInt, -1, 0, 1, 2, end - 1, end, end + 1, 400, 401, math.MaxInt}
		for _, i := range offsets {
			for _, j := range offsets {
				checkNoRope(t, r, i, j)
			}
		}
		for _, s := range append(invalidRopes(), impl.Rope{}, ropeOf("a|b")) {
			checkNoJoin(t, r, s)
			checkNoJoin(t, s, r)
		}
	}
}

func checkNoJoin(t *testing.T, r impl.Rope, s impl.Rope) {
	t.Helper()
	if got, ok := impl.RopeJoin(r, s); ok || got.Chunks != nil {
		t.Fatalf("RopeJoin(%q, %q) = %q, %v", barsOf(r), barsOf(s), barsOf(got), ok)
	}
}

// checkNoRope asserts that every function rejects r, whatever the two numbers mean to it.
func checkNoRope(t *testing.T, r impl.Rope, i int, j int) {
	t.Helper()
	for _, put := range []string{"", "X"} {
		if got, ok := impl.RopeEdit(r, i, j, []byte(put)); ok || got.Chunks != nil {
			t.Fatalf("RopeEdit(%q, %d, %d, %q) = %q, %v", barsOf(r), i, j, put, barsOf(got), ok)
		}
	}
	if got, ok := impl.RopeSlice(r, i, j); ok || got != nil {
		t.Fatalf("RopeSlice(%q, %d, %d) = %q, %v", barsOf(r), i, j, got, ok)
	}
	if front, back, ok := impl.RopeSplit(r, i); ok || front.Chunks != nil || back.Chunks != nil {
		t.Fatalf("RopeSplit(%q, %d) = %q, %q, %v", barsOf(r), i, barsOf(front), barsOf(back), ok)
	}
	if first, last := impl.RopeFind(r, []byte("a"), i), impl.RopeFindBack(r, []byte("a"), i); first != -1 || last != -1 {
		t.Fatalf("RopeFind and RopeFindBack of %q at %d are %d and %d", barsOf(r), i, first, last)
	}
	if line, col := impl.RopeLine(r, i); line != -1 || col != -1 {
		t.Fatalf("RopeLine(%q, %d) = %d, %d", barsOf(r), i, line, col)
	}
	if got := impl.RopePlace(r, i, j); got != -1 {
		t.Fatalf("RopePlace(%q, %d, %d) = %d", barsOf(r), i, j, got)
	}
}

// roomyRope is r with other bytes and chunks in the spare capacity behind each slice.
func roomyRope(texts ...string) impl.Rope {
	chunks := chunksFrom(append(slices.Clone(texts), "behind", "\xff")...)
	for i, c := range chunks {
		chunks[i].Data = append(c.Data, "0123\xff"...)[:len(c.Data)]
	}
	return impl.Rope{Chunks: chunks[:len(texts)]}
}

// wholeRope shows all of r, its spare capacity included.
func wholeRope(r impl.Rope) string {
	var list []string
	for _, c := range r.Chunks[:cap(r.Chunks)] {
		list = append(list, fmt.Sprintf("%q", c.Data[:cap(c.Data)]))
	}
	return strings.Join(list, "|")
}

func wholeRopes(list []impl.Rope) string {
	var all []string
	for _, r := range list {
		all = append(all, wholeRope(r))
	}
	return strings.Join(all, "; ")
}

func allBars(list []impl.Rope) string {
	var all []string
	for _, r := range list {
		all = append(all, barsOf(r))
	}
	return strings.Join(all, ";")
}

// bytesAsRope lets a slice of bytes be treated like the ropes among the arguments and results.
func bytesAsRope(data []byte) impl.Rope {
	return impl.Rope{Chunks: []impl.Chunk{{Data: data}}}
}

// checkOwnRopes overwrites each slice of the results in turn, and at last the arguments, and asserts that nothing else changes.
func checkOwnRopes(t *testing.T, name string, call func() []impl.Rope, arguments ...impl.Rope) {
	t.Helper()
	before := wholeRopes(arguments)
	want := allBars(call())
	check := func(results []impl.Rope) {
		t.Helper()
		if got := wholeRopes(arguments); got != before {
			t.Fatalf("%s: the arguments %s became %s", name, before, got)
		}
		if got := allBars(results); got != want {
			t.Fatalf("%s: after an overwrite the other results are %q, not %q", name, got, want)
		}
	}
	for k, r := range call() {
		for i := range r.Chunks {
			results := call()
			was := bytes.Clone(results[k].Chunks[i].Data)
			overwrite(results[k].Chunks[i].Data)
			results[k].Chunks[i].Data = was
			check(results)
		}
		results := call()
		was := slices.Clone(results[k].Chunks)
		clear(results[k].Chunks[:cap(results[k].Chunks)])
		results[k].Chunks = was
		check(results)
	}
	results := call()
	check(results)
	for _, r := range arguments {
		for _, c := range r.Chunks {
			overwrite(c.Data)
		}
		clear(r.Chunks[:cap(r.Chunks)])
	}
	if got := allBars(results); got != want {
		t.Fatalf("%s: the results share memory with the arguments: %q, not %q", name, got, want)
	}
}

func TestRopesShareNoMemory(t *testing.T) {
	for _, text := range []string{"X", "abcdefghijklmnop", "XY\u20acabcdefghijklmnopqrstuvwxyz"} {
		data := roomyRope(text)
		checkOwnRopes(t, "RopeOf", func() []impl.Rope {
			got, _ := impl.RopeOf(data.Chunks[0].Data)
			return []impl.Rope{got}
		}, data)
	}
	checkOwnParts(t, "a")
	checkOwnParts(t, "a\u20ac\n")
	checkOwnParts(t, "ab", "c")
	checkOwnParts(t, "abcdefghijklmnop", "qr\u00e9st", "\n", "\U0001f642")
}

// checkOwnParts cuts the rope at every pair of boundaries, and joins it.
func checkOwnParts(t *testing.T, texts ...string) {
	t.Helper()
	r := roomyRope(texts...)
	checkOwnRopes(t, "RopeText", func() []impl.Rope { return []impl.Rope{bytesAsRope(impl.RopeText(r))} }, r)
	places := wantBoundaries([]byte(strings.Join(texts, "")))
	for n, i := range places {
		r := roomyRope(texts...)
		checkOwnRopes(t, "RopeSplit", func() []impl.Rope {
			front, back, _ := impl.RopeSplit(r, i)
			return []impl.Rope{front, back}
		}, r)
		for _, j := range places[n:] {
			for _, put := range []string{"", "X", "XY\u20acabcdefghijklmnopqrstuvwxyz"} {
				checkOwnEdit(t, texts, i, j, put)
			}
			r := roomyRope(texts...)
			checkOwnRopes(t, "RopeSlice", func() []impl.Rope {
				got, _ := impl.RopeSlice(r, i, j)
				return []impl.Rope{bytesAsRope(got)}
			}, r)
		}
	}
	a, b := roomyRope(texts...), roomyRope(texts...)
	checkOwnRopes(t, "RopeJoin", func() []impl.Rope { return joined(a, b) }, a, b)
	a = roomyRope(texts...)
	checkOwnRopes(t, "RopeJoin of a rope with itself", func() []impl.Rope { return joined(a, a) }, a)
	a = roomyRope(texts...)
	checkOwnRopes(t, "RopeJoin with the empty rope", func() []impl.Rope { return joined(a, impl.Rope{}) }, a)
	a = roomyRope(texts...)
	checkOwnRopes(t, "RopeJoin of the empty rope", func() []impl.Rope { return joined(impl.Rope{}, a) }, a)
}

func joined(a impl.Rope, b impl.Rope) []impl.Rope {
	got, _ := impl.RopeJoin(a, b)
	return []impl.Rope{got}
}

func checkOwnEdit(t *testing.T, texts []string, i int, j int, text string) {
	t.Helper()
	r := roomyRope(texts...)
	put := roomyRope(text)
	data := put.Chunks[0].Data
	checkOwnRopes(t, "RopeEdit", func() []impl.Rope {
		got, _ := impl.RopeEdit(r, i, j-i, data)
		return []impl.Rope{got}
	}, r, put)
}

// Chunks that are parts of one slice have each other in their spare capacity.
func TestRopesOfPartsOfOneSlice(t *testing.T) {
	whole := []byte("abcdefghijklmnop\xff")
	r := impl.Rope{Chunks: []impl.Chunk{{Data: whole[:3]}, {Data: whole[3:4]}, {Data: whole[2:9]}, {Data: whole[3:4]}}}
	bars := barsOf(r)
	was := bytes.Clone(whole)
	text := textOf(bars)
	for at := range len(text) + 1 {
		for cut := range len(text) - at + 1 {
			got, ok := impl.RopeEdit(r, at, cut, whole[:5])
			if want, _ := wantEdit(bars, at, cut, string(was[:5])); !ok || barsOf(got) != want {
				t.Fatalf("RopeEdit(%q, %d, %d) = %q, want %q", bars, at, cut, barsOf(got), want)
			}
			impl.RopeSlice(r, at, at+cut)
		}
		impl.RopeSplit(r, at)
		impl.RopeFind(r, whole[:2], at)
		impl.RopeFindBack(r, whole[:2], at)
		impl.RopeLine(r, at)
		impl.RopePlace(r, 0, at)
	}
	impl.RopeText(r)
	impl.RopeMeas(r)
	impl.RopeJoin(r, r)
	if !bytes.Equal(whole, was) || barsOf(r) != bars {
		t.Fatalf("%q became %q, and %q became %q", bars, barsOf(r), was, whole)
	}
}

func TestRopeFunctionsModifyNothing(t *testing.T) {
	ropes := []impl.Rope{roomyRope("ab", "\u00e9\n", "c"), roomyRope(), roomyRope("ab", "", "c"), roomyRope("abc\xff"), roomyRope("abcdefghijklmnopq")}
	patterns := []impl.Rope{roomyRope("b"), roomyRope(""), roomyRope("b\xff"), roomyRope("\n")}
	before := wholeRopes(ropes) + wholeRopes(patterns)
	for _, r := range ropes {
		impl.RopeOk(r)
		impl.RopeText(r)
		impl.RopeMeas(r)
		for _, s := range ropes {
			impl.RopeJoin(r, s)
		}
		for _, p := range patterns {
			data := p.Chunks[0].Data
			impl.RopeOf(data)
			for at := -1; at < 9; at++ {
				callAtOffset(r, data, at)
			}
		}
	}
	if after := wholeRopes(ropes) + wholeRopes(patterns); after != before {
		t.Errorf("%s became %s", before, after)
	}
}

func callAtOffset(r impl.Rope, data []byte, at int) {
	impl.RopeFind(r, data, at)
	impl.RopeFindBack(r, data, at)
	impl.RopeLine(r, at)
	impl.RopeSplit(r, at)
	for n := -1; n < 9; n++ {
		impl.RopeEdit(r, at, n, data)
		impl.RopeSlice(r, at, n)
		impl.RopePlace(r, at, n)
	}
}

func TestChunksBehindARopeAreNotRead(t *testing.T) {
	r := roomyRope("ab", "c\n")
	if !impl.RopeOk(r) || string(impl.RopeText(r)) != "abc\n" {
		t.Fatalf("RopeText %q", impl.RopeText(r))
	}
	put := []byte("XY\xff")
	if got, ok := impl.RopeEdit(r, 1, 1, put[:2]); !ok || barsOf(got) != "aXY|c\n" {
		t.Errorf("RopeEdit %q, %v", barsOf(got), ok)
	}
	if first, last := impl.RopeFind(r, []byte("c\xff")[:1], 0), impl.RopeFindBack(r, []byte("c\xff")[:1], 4); first != 2 || last != 2 {
		t.Error("RopeFind and RopeFindBack", first, last)
	}
	if got, ok := impl.RopeOf(put[:2]); !ok || barsOf(got) != "XY" {
		t.Errorf("RopeOf %q, %v", barsOf(got), ok)
	}
}
