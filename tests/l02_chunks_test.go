package tests

import (
	"bytes"
	"math"
	"math/rand"
	"slices"
	"strings"
	"testing"
	"unicode/utf8"

	"loop.example/g00677/impl"
)

// wideRunes are code points of two, three and four bytes, the smallest and the greatest of each length among them.
func wideRunes() []string {
	return []string{"\u0080", "\u00e9", "\u07ff", "\u0800", "\u20ac", "\uffff", "\U00010000", "\U0001f642", "\U0010ffff"}
}

func isText(data []byte) bool {
	return len(data) <= 400 && utf8.Valid(data)
}

func wantMeas(data []byte) impl.Meas {
	if !isText(data) {
		return impl.Meas{}
	}
	return impl.Meas{Bytes: len(data), Runes: utf8.RuneCount(data), Lines: strings.Count(string(data), "\n")}
}

// wantChunks fills each chunk with one code point after the other.
func wantChunks(data []byte) []string {
	if !isText(data) {
		return nil
	}
	var list []string
	chunk := ""
	for _, r := range string(data) {
		if len(chunk)+utf8.RuneLen(r) > 16 {
			list = append(list, chunk)
			chunk = ""
		}
		chunk += string(r)
	}
	if chunk != "" {
		list = append(list, chunk)
	}
	return list
}

func chunksFrom(texts ...string) []impl.Chunk {
	var list []impl.Chunk
	for _, s := range texts {
		list = append(list, impl.Chunk{Data: []byte(s)})
	}
	return list
}

func textsFrom(list []impl.Chunk) []string {
	var texts []string
	for _, c := range list {
		texts = append(texts, string(c.Data))
	}
	return texts
}

// byteTexts are texts of one byte each.
func byteTexts(n int) []string {
	return slices.Repeat([]string{"a"}, n)
}

// textOfBytes is a text of n bytes that consists of c as far as possible, with single bytes at its start.
func textOfBytes(n int, c string) []byte {
	return []byte(strings.Repeat("a", n%len(c)) + strings.Repeat(c, n/len(c)))
}

// checkChunking asserts promise 3 for data, whether or not it is a text.
func checkChunking(t *testing.T, data []byte) {
	t.Helper()
	if got := impl.MeasOf(data); got != wantMeas(data) {
		t.Fatalf("MeasOf(%q) = %v, want %v", data, got, wantMeas(data))
	}
	list := impl.ChunksOf(data)
	if got, want := textsFrom(list), wantChunks(data); !slices.Equal(got, want) {
		t.Fatalf("ChunksOf(%q) = %q, want %q", data, got, want)
	}
	if !isText(data) {
		return
	}
	checkValidList(t, list)
	if got := impl.ChunksText(list); !bytes.Equal(got, data) {
		t.Fatalf("the chunks of %q have the text %q", data, got)
	}
	var total impl.Meas
	for _, c := range list {
		total = impl.MeasAdd(total, impl.MeasOf(c.Data))
	}
	if total != impl.MeasOf(data) {
		t.Fatalf("the chunks of %q have the measure %v", data, total)
	}
}

// checkValidList asserts that the list is valid, and locates every byte of it.
func checkValidList(t *testing.T, list []impl.Chunk) {
	t.Helper()
	text := strings.Join(textsFrom(list), "")
	if !impl.ChunksOk(list) {
		t.Fatalf("the chunks %q are not valid", textsFrom(list))
	}
	if got := impl.ChunksText(list); string(got) != text {
		t.Fatalf("ChunksText(%q) = %q", textsFrom(list), got)
	}
	at := 0
	for i, c := range list {
		if !impl.ChunkOk(c) {
			t.Fatalf("the chunk %q is not valid", c.Data)
		}
		for k := range c.Data {
			checkPlace(t, list, at, i, k)
			at++
		}
	}
	checkPlace(t, list, len(text), len(list), 0)
	for _, outside := range outsideOffsets([]byte(text)) {
		checkPlace(t, list, outside, -1, -1)
	}
}

func checkPlace(t *testing.T, list []impl.Chunk, at int, i int, k int) {
	t.Helper()
	if gotI, gotK := impl.ChunkFor(list, at); gotI != i || gotK != k {
		t.Fatalf("ChunkFor(%q, %d) = %d, %d, want %d, %d", textsFrom(list), at, gotI, gotK, i, k)
	}
}

func checkInvalidList(t *testing.T, list []impl.Chunk) {
	t.Helper()
	if impl.ChunksOk(list) {
		t.Fatalf("the chunks %q are valid", textsFrom(list))
	}
	if got := impl.ChunksText(list); got != nil {
		t.Fatalf("ChunksText(%q) = %q", textsFrom(list), got)
	}
	end := len(strings.Join(textsFrom(list), ""))
	for _, at := range []int{math.MinInt, -1, 0, 1, 15, 16, 17, end - 1, end, end + 1, 400, 401, math.MaxInt} {
		checkPlace(t, list, at, -1, -1)
	}
}

func TestChunkExamples(t *testing.T) {
	if got := impl.MeasOf([]byte("a\n\u00e9\n")); got != (impl.Meas{Bytes: 5, Runes: 4, Lines: 2}) {
		t.Error("MeasOf", got)
	}
	if got := impl.MeasAdd(impl.Meas{Bytes: 1, Runes: 2, Lines: 0}, impl.Meas{Bytes: 3, Runes: 0, Lines: 4}); got != (impl.Meas{Bytes: 4, Runes: 2, Lines: 4}) {
		t.Error("MeasAdd", got)
	}
	list := impl.ChunksOf([]byte("abcdefghijklmno\u00e9xyz"))
	if got := textsFrom(list); !slices.Equal(got, []string{"abcdefghijklmno", "\u00e9xyz"}) {
		t.Fatalf("ChunksOf %q", got)
	}
	checkPlace(t, list, 16, 1, 1)
	checkPlace(t, list, 20, 2, 0)
}

func TestMeasuresOfTexts(t *testing.T) {
	measures := []struct {
		text string
		want impl.Meas
	}{
		{"", impl.Meas{}},
		{"a", impl.Meas{Bytes: 1, Runes: 1}},
		{"\n", impl.Meas{Bytes: 1, Runes: 1, Lines: 1}},
		{"\r\n\r", impl.Meas{Bytes: 3, Runes: 3, Lines: 1}},
		{"\v\f\x00\t", impl.Meas{Bytes: 4, Runes: 4}},
		{"\u0085\u2028\u2029\u010a", impl.Meas{Bytes: 10, Runes: 4}},
		{"\n\n\u20ac\n\U0001f642", impl.Meas{Bytes: 10, Runes: 5, Lines: 3}},
		{strings.Repeat("\n", 400), impl.Meas{Bytes: 400, Runes: 400, Lines: 400}},
		{strings.Repeat("\n", 401), impl.Meas{}},
		{strings.Repeat("\U0001f642", 100), impl.Meas{Bytes: 400, Runes: 100}},
		{strings.Repeat("\U0001f642", 101), impl.Meas{}},
		{strings.Repeat("\u00e9", 199) + "a\n", impl.Meas{Bytes: 400, Runes: 201, Lines: 1}},
		{"a\n\xc3", impl.Meas{}},
		{"\xa9a\n", impl.Meas{}},
		{"a\xc0\x80\n", impl.Meas{}},
		{"\xed\xa0\x80", impl.Meas{}},
		{"\xff", impl.Meas{}},
	}
	for _, x := range measures {
		if got := impl.MeasOf([]byte(x.text)); got != x.want {
			t.Errorf("MeasOf(%q) = %v, want %v", x.text, got, x.want)
		}
		checkChunking(t, []byte(x.text))
	}
	if got := impl.MeasOf(nil); got != (impl.Meas{}) {
		t.Error("MeasOf(nil)", got)
	}
}

func TestMeasuresAreAddedFieldByField(t *testing.T) {
	numbers := []int{0, 1, 2, 199, 200, 201, 399, 400}
	random := rand.New(rand.NewSource(3))
	pick := func() int { return numbers[random.Intn(len(numbers))] }
	for range 2000 {
		a := impl.Meas{Bytes: pick(), Runes: pick(), Lines: pick()}
		b := impl.Meas{Bytes: pick(), Runes: pick(), Lines: pick()}
		want := impl.Meas{Bytes: a.Bytes + b.Bytes, Runes: a.Runes + b.Runes, Lines: a.Lines + b.Lines}
		if got := impl.MeasAdd(a, b); got != want {
			t.Fatalf("MeasAdd(%v, %v) = %v", a, b, got)
		}
	}
	most := impl.Meas{Bytes: 400, Runes: 400, Lines: 400}
	if got := impl.MeasAdd(most, most); got != (impl.Meas{Bytes: 800, Runes: 800, Lines: 800}) {
		t.Error("a sum may exceed what its parts may not", got)
	}
	if impl.MeasAdd(most, impl.Meas{}) != most || impl.MeasAdd(impl.Meas{}, most) != most || impl.MeasAdd(impl.Meas{}, impl.Meas{}) != (impl.Meas{}) {
		t.Error("adding the zero value changes a measure")
	}
}

func TestMeasuresWithAFieldOutOfRangeAreNotAdded(t *testing.T) {
	others := []impl.Meas{{}, {Bytes: 1, Runes: 2, Lines: 3}, {Bytes: 400, Runes: 400, Lines: 400}}
	for _, n := range []int{math.MinInt, -401, -400, -1, 401, 800, math.MaxInt} {
		wrong := []impl.Meas{
			{Bytes: n}, {Runes: n}, {Lines: n},
			{Bytes: n, Runes: 5, Lines: 6}, {Bytes: 5, Runes: n, Lines: 6}, {Bytes: 5, Runes: 6, Lines: n},
			{Bytes: n, Runes: n, Lines: n},
		}
		for _, w := range wrong {
			for _, o := range append(others, w) {
				if a, b := impl.MeasAdd(w, o), impl.MeasAdd(o, w); a != (impl.Meas{}) || b != (impl.Meas{}) {
					t.Errorf("%v and %v are added to %v and %v", w, o, a, b)
				}
			}
		}
	}
}

func TestChunkSizes(t *testing.T) {
	if impl.MaxChunk != 16 {
		t.Fatal("MaxChunk", impl.MaxChunk)
	}
	if impl.ChunkOk(impl.Chunk{}) || impl.ChunkOk(impl.Chunk{Data: []byte{}}) {
		t.Error("a chunk of 0 bytes is valid")
	}
	for _, c := range append(wideRunes(), "a", "\x00", "\n") {
		for n := range 40 {
			data := textOfBytes(n, c)
			if got := impl.ChunkOk(impl.Chunk{Data: data}); got != (n >= 1 && n <= 16) {
				t.Errorf("ChunkOk of the %d bytes %q is %v", n, data, got)
			}
		}
	}
	for _, n := range []int{400, 401, 4000} {
		if impl.ChunkOk(impl.Chunk{Data: make([]byte, n)}) {
			t.Errorf("a chunk of %d bytes is valid", n)
		}
	}
}

func TestChunksThatAreNoText(t *testing.T) {
	room := []byte("a\u20ac")
	wrong := [][]byte{{128}, {192, 128}, {195}, {255}, {237, 160, 128}, {244, 144, 128, 128}, []byte("abc\xe2\x82"), []byte("\xa9abc"), []byte("abcdefghijklmno\xc3"), room[:2], room[:3]}
	for _, data := range wrong {
		if impl.ChunkOk(impl.Chunk{Data: data}) {
			t.Errorf("the chunk %q is valid", data)
		}
		bad := impl.Chunk{Data: data}
		good := impl.Chunk{Data: []byte("ab")}
		for _, list := range [][]impl.Chunk{{bad}, {bad, good}, {good, bad}, {good, bad, good}, {good, good, bad}} {
			checkInvalidList(t, list)
		}
		checkChunking(t, data)
		checkChunking(t, slices.Concat([]byte("abcdefghijklmnopqrst"), data))
	}
}

func TestTextsOfAllLengths(t *testing.T) {
	for _, c := range []string{"\n", "\u00e9", "\u20ac", "\U0001f642"} {
		for n := range 403 {
			checkChunking(t, textOfBytes(n, c))
		}
	}
}

func TestTextsAtTheLimits(t *testing.T) {
	lengths := []struct{ bytes, chunks int }{{0, 0}, {1, 1}, {15, 1}, {16, 1}, {17, 2}, {32, 2}, {33, 3}, {384, 24}, {385, 25}, {399, 25}, {400, 25}, {401, 0}, {4000, 0}}
	for _, x := range lengths {
		list := impl.ChunksOf(bytes.Repeat([]byte("a"), x.bytes))
		if len(list) != x.chunks {
			t.Errorf("%d bytes have %d chunks", x.bytes, len(list))
		}
		for i, c := range list {
			if want := min(16, x.bytes-16*i); len(c.Data) != want {
				t.Errorf("chunk %d of %d bytes has %d", i, x.bytes, len(c.Data))
			}
		}
	}
	if impl.ChunksOf(nil) != nil || len(impl.ChunksOf([]byte{})) != 0 {
		t.Error("the empty text has chunks")
	}
}

func TestCodePointAtTheEndOfAChunk(t *testing.T) {
	letters := "abcdefghijklmnop"
	for _, c := range wideRunes() {
		for after := range 20 {
			rest := strings.Repeat("z", after)
			fits := letters[:16-len(c)]
			list := impl.ChunksOf([]byte(fits + c + rest))
			if want := append([]string{fits + c}, wantChunks([]byte(rest))...); !slices.Equal(textsFrom(list), want) {
				t.Errorf("%q, which fits, is split into %q", fits+c+rest, textsFrom(list))
			}
			// One letter more leaves a byte too few, and further letters leave even fewer.
			for n := 17 - len(c); n <= 16; n++ {
				list = impl.ChunksOf([]byte(letters[:n] + c + rest))
				if want := append([]string{letters[:n]}, wantChunks([]byte(c+rest))...); !slices.Equal(textsFrom(list), want) {
					t.Errorf("%q, which does not fit, is split into %q", letters[:n]+c+rest, textsFrom(list))
				}
			}
		}
	}
}

func TestEveryChunkIsAsLongAsPossible(t *testing.T) {
	random := rand.New(rand.NewSource(4))
	for range 500 {
		list := impl.ChunksOf(randomText(random))
		for i := 1; i < len(list); i++ {
			_, size := utf8.DecodeRune(list[i].Data)
			if len(list[i-1].Data)+size <= 16 {
				t.Fatalf("the first code point of %q fits into the chunk before", textsFrom(list)[i-1:])
			}
		}
	}
}

func TestRandomTextsAreChunked(t *testing.T) {
	random := rand.New(rand.NewSource(5))
	for range 500 {
		text := randomText(random)
		for range random.Intn(4) {
			text = append(text, '\n')
		}
		checkChunking(t, text)
		if len(text) > 0 {
			text[random.Intn(len(text))] = byte(random.Intn(256))
			checkChunking(t, text)
		}
	}
}

func TestListsThatNoTextIsSplitInto(t *testing.T) {
	lists := [][]string{
		nil,
		{"a"},
		{"a", "b", "\n"},
		{"abcdefghijklmnop", "a", "abcdefghijklmnop", "\u00e9"},
		{"\U0001f642", "\u20ac", "\u00e9", "a"},
		{"\U0001f642\U0001f642\U0001f642\U0001f642", "x", "\U0001f642\U0001f642\U0001f642\U0001f642"},
		byteTexts(400),
	}
	for _, texts := range lists {
		checkValidList(t, chunksFrom(texts...))
	}
	random := rand.New(rand.NewSource(6))
	for range 200 {
		var list []impl.Chunk
		for range random.Intn(20) {
			n := 1 + random.Intn(16)
			list = append(list, impl.Chunk{Data: textOfBytes(n, wideRunes()[random.Intn(9)])})
		}
		checkValidList(t, list)
	}
}

func TestListsOfTheGreatestLength(t *testing.T) {
	full := "abcdefghijklmnop"
	wide := strings.Repeat("\U0001f642", 4)
	for _, c := range []string{full, wide} {
		most := slices.Repeat([]string{c}, 25)
		checkValidList(t, chunksFrom(most...))
		checkInvalidList(t, chunksFrom(append(slices.Clone(most), "a")...))
		checkInvalidList(t, chunksFrom(append([]string{"a"}, most...)...))
		checkInvalidList(t, chunksFrom(append(slices.Clone(most), c)...))
		checkValidList(t, chunksFrom(append([]string{"a"}, most[1:]...)...))
		checkInvalidList(t, chunksFrom(slices.Repeat([]string{c}, 500)...))
	}
	checkValidList(t, chunksFrom(byteTexts(400)...))
	checkInvalidList(t, chunksFrom(byteTexts(401)...))
	checkInvalidList(t, chunksFrom(byteTexts(5000)...))
	checkValidList(t, chunksFrom(slices.Repeat([]string{"\u20ac"}, 133)...))
	checkInvalidList(t, chunksFrom(slices.Repeat([]string{"\u20ac"}, 134)...))
	checkValidList(t, chunksFrom(slices.Repeat([]string{"\U0001f642"}, 100)...))
	checkInvalidList(t, chunksFrom(slices.Repeat([]string{"\U0001f642"}, 101)...))
}

func TestListsWithAnInvalidChunk(t *testing.T) {
	for _, texts := range [][]string{
		{""},
		{"", "a"},
		{"a", ""},
		{"a", "", "b"},
		{"", ""},
		{"abcdefghijklmnopq"},
		{"abcdefghijklmnopq", "a"},
		{"a", "abcdefghijklmnopq", "b"},
		{"a", "\U0001f642\U0001f642\U0001f642\U0001f642\u00e9"},
		{strings.Repeat("a", 400)},
		{strings.Repeat("a", 401)},
		// The concatenation is a text, but its parts are not.
		{"\xc3", "\xa9"},
		{"a\xe2", "\x82\xac"},
		{"a", "\xf0\x9f", "\x99\x82", "b"},
		{"abcdefghijklmno\xc3", "\xa9xyz"},
	} {
		checkInvalidList(t, chunksFrom(texts...))
	}
}

func TestPlacesAtTheStartsOfChunks(t *testing.T) {
	list := chunksFrom("ab", "\u20ac", "abcdefghijklmnop", "\n")
	for i, at := range []int{0, 2, 5, 21, 22} {
		checkPlace(t, list, at, i, 0)
	}
	for i, at := range []int{1, 4, 20, 21} {
		checkPlace(t, list, at, i, len(list[i].Data)-1)
	}
	for _, at := range []int{math.MinInt, -2, -1, 23, 24, 400, math.MaxInt} {
		checkPlace(t, list, at, -1, -1)
	}
	checkPlace(t, nil, 0, 0, 0)
	checkPlace(t, nil, 1, -1, -1)
	checkPlace(t, nil, -1, -1, -1)
	checkPlace(t, []impl.Chunk{}, 0, 0, 0)
}

func TestElementsBeyondTheLengthAreNotRead(t *testing.T) {
	list := chunksFrom("ab", "c", "", "\xff")
	checkValidList(t, list[:2])
	checkInvalidList(t, list[:3])
	data := []byte("ab\n\xff\n")
	if got := impl.MeasOf(data[:3]); got != (impl.Meas{Bytes: 3, Runes: 3, Lines: 1}) {
		t.Error("MeasOf", got)
	}
	if got := textsFrom(impl.ChunksOf(data[:3])); !slices.Equal(got, []string{"ab\n"}) {
		t.Errorf("ChunksOf %q", got)
	}
}

func TestChunkFunctionsModifyNothing(t *testing.T) {
	room := []byte("abcdefghijklmno\u00e9xyz\n\xff")
	was := bytes.Clone(room)
	for n := range len(room) + 1 {
		checkChunking(t, room[:n])
	}
	if !bytes.Equal(room, was) {
		t.Fatalf("%q became %q", was, room)
	}
	lists := [][]impl.Chunk{chunksFrom("ab", "\u00e9\n", "c"), chunksFrom("ab", "", "c"), chunksFrom("abc\xff")}
	for _, list := range lists {
		// Each chunk has room behind it, which must stay as it is.
		for i := range list {
			list[i].Data = append(list[i].Data, "0123"...)[:len(list[i].Data)]
		}
		before := textsFrom(list)
		impl.ChunksOk(list)
		impl.ChunksText(list)
		impl.ChunksText(list[:1])
		impl.ChunkFor(list, 1)
		if after := textsFrom(list); !slices.Equal(after, before) {
			t.Errorf("%q became %q", before, after)
		}
		for _, c := range list {
			if behind := string(c.Data[:len(c.Data)+4][len(c.Data):]); behind != "0123" {
				t.Errorf("behind %q stands %q", c.Data, behind)
			}
		}
	}
}

// overwrite changes a slice of a result, and what lies behind its end.
func overwrite(data []byte) {
	whole := data[:cap(data)]
	for i := range whole {
		whole[i] = '#'
	}
}

func TestChunksShareNoMemory(t *testing.T) {
	text := []byte("abcdefghijklmno\u00e9xyzabcdefghijklmnopqrstuvwxyz\n")
	was := bytes.Clone(text)
	want := wantChunks(text)
	for i := range want {
		list := impl.ChunksOf(text)
		overwrite(list[i].Data)
		if !bytes.Equal(text, was) {
			t.Fatalf("chunk %d shares memory with the text", i)
		}
		for j := range list {
			if j != i && string(list[j].Data) != want[j] {
				t.Fatalf("chunks %d and %d share memory", i, j)
			}
		}
	}
	list := impl.ChunksOf(text)
	overwrite(text)
	if !slices.Equal(textsFrom(list), want) {
		t.Error("the chunks share memory with the text")
	}
}

func TestConcatenationsShareNoMemory(t *testing.T) {
	for _, texts := range [][]string{{"ab"}, {"ab", "cd"}, {"ab", "\u00e9", "abcdefghijklmnop"}} {
		list := chunksFrom(texts...)
		first := impl.ChunksText(list)
		second := impl.ChunksText(list)
		overwrite(first)
		if !slices.Equal(textsFrom(list), texts) || string(second) != strings.Join(texts, "") {
			t.Errorf("the concatenation of %q shares memory", texts)
		}
		for _, c := range list {
			overwrite(c.Data)
		}
		if string(second) != strings.Join(texts, "") {
			t.Errorf("the concatenation of %q shares memory with a chunk", texts)
		}
	}
}
