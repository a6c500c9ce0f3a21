package tests

import (
	"bytes"
	"math"
	"math/rand"
	"slices"
	"strings"
	"testing"
	"unicode/utf8"

	"loop.example/g00677/impl"
)

const lastCodePoint = 1114111

// sample is the text of the document's examples: code points of one, two, three and four bytes.
func sample() []byte {
	return []byte{97, 195, 169, 226, 130, 172, 240, 159, 153, 130}
}

// longForm writes r in that many bytes, whether or not r is a code point and whether or not the form is the shortest.
func longForm(r int, size int) []byte {
	out := make([]byte, size)
	for i := size - 1; i > 0; i-- {
		out[i] = byte(128 + r%64)
		r /= 64
	}
	lead := map[int]int{1: 0, 2: 192, 3: 224, 4: 240, 5: 248, 6: 252}
	out[0] = byte(lead[size] + r)
	return out
}

// wantRune is what the standard library finds at the offset.
func wantRune(data []byte, at int) (int, int) {
	if at < 0 || at >= len(data) {
		return -1, 0
	}
	r, size := utf8.DecodeRune(data[at:])
	if r == utf8.RuneError && size < 3 {
		return -1, 0
	}
	return int(r), size
}

// wantBoundaries lists the boundaries of data, or nothing if data is not a text.
func wantBoundaries(data []byte) []int {
	if len(data) > 400 || !utf8.Valid(data) {
		return nil
	}
	list := make([]int, 0, len(data)+1)
	for at := range string(data) {
		list = append(list, at)
	}
	return append(list, len(data))
}

func checkRune(t *testing.T, data []byte, at int) {
	t.Helper()
	r, size := wantRune(data, at)
	if got := impl.RuneSize(data, at); got != size {
		t.Fatalf("RuneSize(%v, %d) = %d, want %d", data, at, got, size)
	}
	if got := impl.RuneAt(data, at); got != r {
		t.Fatalf("RuneAt(%v, %d) = %d, want %d", data, at, got, r)
	}
}

func outsideOffsets(data []byte) []int {
	return []int{math.MinInt, -401, -2, -1, len(data) + 1, len(data) + 2, len(data) + 401, math.MaxInt - 1, math.MaxInt}
}

// checkText compares every function but RuneBytes with the standard library, at all offsets and numbers.
func checkText(t *testing.T, data []byte) {
	t.Helper()
	want := wantBoundaries(data)
	if got := impl.TextOk(data); got != (want != nil) {
		t.Fatalf("TextOk(%v) = %v", data, got)
	}
	if got := impl.RuneCount(data); got != len(want)-1 {
		t.Fatalf("RuneCount(%v) = %d, want %d", data, got, len(want)-1)
	}
	numbers := outsideOffsets(data)
	for i := range len(data) + 1 {
		numbers = append(numbers, i)
	}
	for _, n := range numbers {
		checkRune(t, data, n)
		checkPlaces(t, data, n, want)
	}
}

func checkPlaces(t *testing.T, data []byte, n int, want []int) {
	t.Helper()
	index := slices.Index(want, n)
	if got := impl.CutOk(data, n); got != (index >= 0) {
		t.Fatalf("CutOk(%v, %d) = %v", data, n, got)
	}
	if got := impl.RunesTo(data, n); got != index {
		t.Fatalf("RunesTo(%v, %d) = %d, want %d", data, n, got, index)
	}
	place := -1
	if n >= 0 && n < len(want) {
		place = want[n]
	}
	if got := impl.PlaceOf(data, n); got != place {
		t.Fatalf("PlaceOf(%v, %d) = %d, want %d", data, n, got, place)
	}
}

// checkNoText asserts that data, which starts with a wrong encoding, is no text, alone and inside others.
func checkNoText(t *testing.T, data []byte) {
	t.Helper()
	if size, r := impl.RuneSize(data, 0), impl.RuneAt(data, 0); size != 0 || r != -1 {
		t.Fatalf("%v is decoded as %d in %d bytes", data, r, size)
	}
	for _, whole := range [][]byte{data, slices.Concat([]byte("a"), data), slices.Concat(data, []byte("a")), slices.Concat(sample(), data, sample())} {
		if impl.TextOk(whole) || impl.RuneCount(whole) != -1 {
			t.Fatalf("%v is a text", whole)
		}
		for n := -1; n <= len(whole)+1; n++ {
			if impl.CutOk(whole, n) || impl.PlaceOf(whole, n) != -1 || impl.RunesTo(whole, n) != -1 {
				t.Fatalf("%v has a place at %d", whole, n)
			}
		}
	}
}

func TestRuneExamples(t *testing.T) {
	if got := impl.RuneBytes(233); !bytes.Equal(got, []byte{195, 169}) {
		t.Error("RuneBytes(233)", got)
	}
	if got := impl.RuneBytes(55296); got != nil {
		t.Error("RuneBytes(55296)", got)
	}
	text := sample()
	if string(text) != "a\u00e9\u20ac\U0001f642" {
		t.Fatal("sample")
	}
	if impl.RuneSize(text, 1) != 2 || impl.RuneSize(text, 2) != 0 || impl.RuneAt(text, 3) != 8364 {
		t.Error("RuneSize, RuneAt")
	}
	if !impl.TextOk(nil) || !impl.TextOk([]byte{}) || impl.TextOk([]byte{192, 128}) {
		t.Error("TextOk")
	}
	if !impl.CutOk(text, 3) || !impl.CutOk(text, 10) || impl.CutOk(text, 2) {
		t.Error("CutOk")
	}
	if impl.RuneCount(text) != 4 || impl.PlaceOf(text, 2) != 3 || impl.PlaceOf(text, 5) != -1 || impl.RunesTo(text, 6) != 3 {
		t.Error("RuneCount, PlaceOf, RunesTo")
	}
}

func TestEveryCodePointIsDecodedFromItsEncoding(t *testing.T) {
	for r := range lastCodePoint + 1 {
		if r >= 55296 && r <= 57343 {
			continue
		}
		data := impl.RuneBytes(r)
		if string(data) != string(rune(r)) {
			t.Fatalf("RuneBytes(%d) = %v", r, data)
		}
		if impl.RuneAt(data, 0) != r || impl.RuneSize(data, 0) != len(data) {
			t.Fatalf("%d is decoded as %d in %d bytes", r, impl.RuneAt(data, 0), impl.RuneSize(data, 0))
		}
		if !impl.TextOk(data) || impl.RuneCount(data) != 1 {
			t.Fatalf("%d is no text", r)
		}
	}
}

func TestEncodingLengthsAtTheirLimits(t *testing.T) {
	limits := []struct{ r, size int }{{0, 1}, {127, 1}, {128, 2}, {2047, 2}, {2048, 3}, {55295, 3}, {57344, 3}, {65533, 3}, {65535, 3}, {65536, 4}, {lastCodePoint, 4}}
	for _, x := range limits {
		if got := impl.RuneBytes(x.r); len(got) != x.size {
			t.Errorf("RuneBytes(%d) = %v", x.r, got)
		}
		checkText(t, impl.RuneBytes(x.r))
	}
}

func TestNoCodePointNoEncoding(t *testing.T) {
	for r := 55296; r <= 57343; r++ {
		if got := impl.RuneBytes(r); got != nil {
			t.Fatalf("RuneBytes(%d) = %v", r, got)
		}
	}
	for _, r := range []int{math.MinInt, math.MinInt32, -65536, -233, -2, -1, lastCodePoint + 1, 1 << 21, 1<<21 + 97, 1 << 32, 1<<32 + 97, math.MaxInt} {
		if got := impl.RuneBytes(r); got != nil {
			t.Errorf("RuneBytes(%d) = %v", r, got)
		}
	}
}

func TestOverlongEncodingsAreRejected(t *testing.T) {
	for size, end := range map[int]int{2: 128, 3: 2048, 4: 65536} {
		for r := range end {
			data := longForm(r, size)
			if impl.RuneSize(data, 0) != 0 || impl.RuneAt(data, 0) != -1 || impl.TextOk(data) {
				t.Fatalf("%v is accepted", data)
			}
		}
		for _, r := range []int{0, 47, 127, end / 2, end - 1} {
			checkNoText(t, longForm(r, size))
		}
		checkText(t, longForm(end, size))
	}
}

func TestEncodingsOfNoCodePointAreRejected(t *testing.T) {
	for r := 55296; r <= 57343; r++ {
		if data := longForm(r, 3); impl.RuneSize(data, 0) != 0 || impl.RuneAt(data, 0) != -1 || impl.TextOk(data) {
			t.Fatalf("%v is accepted", data)
		}
	}
	for _, r := range []int{55296, 56319, 56320, 57343} {
		checkNoText(t, longForm(r, 3))
		checkNoText(t, longForm(r, 4))
	}
	for r := lastCodePoint + 1; r < 1<<21; r += 31 {
		if data := longForm(r, 4); impl.RuneSize(data, 0) != 0 || impl.RuneAt(data, 0) != -1 || impl.TextOk(data) {
			t.Fatalf("%v is accepted", data)
		}
	}
	for _, data := range [][]byte{longForm(lastCodePoint+1, 4), longForm(1<<21-1, 4), longForm(97, 5), longForm(1<<21, 5), longForm(97, 6), longForm(1<<26, 6), {254}, {255}, {254, 128, 128, 128}, {255, 191, 191, 191}} {
		checkNoText(t, data)
	}
	checkText(t, longForm(lastCodePoint, 4))
}

func TestEncodingsCutShort(t *testing.T) {
	for _, r := range []int{128, 233, 2047, 2048, 8364, 65535, 65536, 128578, lastCodePoint} {
		whole := impl.RuneBytes(r)
		for n := 1; n < len(whole); n++ {
			checkNoText(t, bytes.Clone(whole[:n]))
			// The missing bytes stand behind the end, where they must not be read.
			if part := whole[:n]; impl.RuneSize(part, 0) != 0 || impl.RuneAt(part, 0) != -1 || impl.TextOk(part) {
				t.Fatalf("%v is read beyond its end", part)
			}
			for _, next := range []byte{0, 97, 127, 192, 255} {
				broken := bytes.Clone(whole)
				broken[n] = next
				checkNoText(t, broken)
			}
		}
	}
}

func TestContinuationByteAtTheStart(t *testing.T) {
	for b := 128; b < 192; b++ {
		checkNoText(t, []byte{byte(b)})
		checkNoText(t, []byte{byte(b), 128})
	}
	for at := range 10 {
		checkText(t, sample()[at:])
	}
}

func TestAllShortSequences(t *testing.T) {
	third := []byte{0, 65, 127, 128, 129, 159, 160, 190, 191, 192, 255}
	for a := range 256 {
		checkRune(t, []byte{byte(a)}, 0)
		for b := range 256 {
			checkRune(t, []byte{byte(a), byte(b)}, 0)
			for _, c := range third {
				checkRune(t, []byte{byte(a), byte(b), c}, 0)
				for _, d := range third {
					checkRune(t, []byte{byte(a), byte(b), c, d}, 0)
				}
			}
		}
	}
}

func TestOffsetsOutsideTheData(t *testing.T) {
	for _, data := range [][]byte{nil, {}, []byte("a"), sample(), {128}, {255, 255}} {
		for _, at := range append(outsideOffsets(data), len(data)) {
			if impl.RuneSize(data, at) != 0 || impl.RuneAt(data, at) != -1 {
				t.Errorf("%v has a code point at %d", data, at)
			}
		}
		for _, at := range outsideOffsets(data) {
			if impl.CutOk(data, at) || impl.RunesTo(data, at) != -1 || impl.PlaceOf(data, at) != -1 {
				t.Errorf("%v has a place at %d", data, at)
			}
		}
	}
}

func TestEmptyText(t *testing.T) {
	for _, data := range [][]byte{nil, {}, sample()[:0]} {
		if !impl.TextOk(data) || impl.RuneCount(data) != 0 {
			t.Error("the empty slice is a text of no code points")
		}
		if !impl.CutOk(data, 0) || impl.PlaceOf(data, 0) != 0 || impl.RunesTo(data, 0) != 0 {
			t.Error("0 is a boundary of the empty text")
		}
		if impl.CutOk(data, 1) || impl.PlaceOf(data, 1) != -1 || impl.RunesTo(data, 1) != -1 {
			t.Error("1 is no boundary of the empty text")
		}
		checkText(t, data)
	}
}

func TestLongestText(t *testing.T) {
	if impl.MaxText != 400 {
		t.Fatal("MaxText", impl.MaxText)
	}
	for _, c := range []string{"a", "\x00", "\u00e9", "\u20ac", "\U0001f642"} {
		most := strings.Repeat(c, 400/len(c))
		fill := strings.Repeat("a", 400-len(most))
		checkText(t, []byte(most+fill))
		checkText(t, []byte(fill+most))
		if !impl.TextOk([]byte(most + fill)) {
			t.Errorf("400 bytes of %q are no text", c)
		}
		checkNoLongText(t, []byte(most+fill+"a"))
		checkNoLongText(t, []byte(strings.Repeat("a", 401-len(c))+c))
		checkNoLongText(t, []byte(strings.Repeat(c, 401)))
	}
}

// checkNoLongText asserts that data, which has more than 400 bytes, is no text, while its code points can be read.
func checkNoLongText(t *testing.T, data []byte) {
	t.Helper()
	if impl.TextOk(data) || impl.RuneCount(data) != -1 {
		t.Errorf("%d bytes are a text", len(data))
	}
	for at := range len(data) + 1 {
		if impl.CutOk(data, at) || impl.PlaceOf(data, at) != -1 || impl.RunesTo(data, at) != -1 {
			t.Fatalf("%d bytes have a place at %d", len(data), at)
		}
		checkRune(t, data, at)
	}
}

func TestCodePointsAreReadFromDataThatIsNoText(t *testing.T) {
	data := slices.Concat([]byte{255}, sample(), []byte{195})
	if impl.TextOk(data) || impl.RuneAt(data, 0) != -1 || impl.RuneAt(data, 4) != 8364 || impl.RuneSize(data, 7) != 4 || impl.RuneSize(data, 11) != 0 {
		t.Error(data)
	}
	checkText(t, data)
}

func TestNumbersAtTheEnd(t *testing.T) {
	for _, s := range []string{"", "a", "\u00e9", "ab\n", string(sample()), strings.Repeat("\u20ac", 133)} {
		data := []byte(s)
		n := impl.RuneCount(data)
		if n != utf8.RuneCountInString(s) {
			t.Fatalf("RuneCount(%q) = %d", s, n)
		}
		if impl.PlaceOf(data, n) != len(data) || impl.PlaceOf(data, n+1) != -1 || impl.PlaceOf(data, -1) != -1 || impl.PlaceOf(data, math.MinInt) != -1 || impl.PlaceOf(data, math.MaxInt) != -1 {
			t.Errorf("PlaceOf at the end of %q", s)
		}
		if impl.RunesTo(data, len(data)) != n || impl.RunesTo(data, len(data)+1) != -1 || impl.RunesTo(data, -1) != -1 {
			t.Errorf("RunesTo at the end of %q", s)
		}
	}
}

func checkInverse(t *testing.T, data []byte) {
	t.Helper()
	for n := range impl.RuneCount(data) + 1 {
		at := impl.PlaceOf(data, n)
		if !impl.CutOk(data, at) || impl.RunesTo(data, at) != n {
			t.Fatalf("code point %d of %v is at %d, before which there are %d", n, data, at, impl.RunesTo(data, at))
		}
	}
	for at := range len(data) + 1 {
		n := impl.RunesTo(data, at)
		if (n >= 0) != impl.CutOk(data, at) {
			t.Fatalf("RunesTo(%v, %d) = %d", data, at, n)
		}
		if n >= 0 && impl.PlaceOf(data, n) != at {
			t.Fatalf("before %d in %v there are %d code points, and code point %d is at %d", at, data, n, n, impl.PlaceOf(data, n))
		}
	}
}

func randomText(random *rand.Rand) []byte {
	var text []byte
	ends := []int{128, 2048, 65536, lastCodePoint + 1}
	for range random.Intn(60) {
		text = utf8.AppendRune(text, rune(random.Intn(ends[random.Intn(len(ends))])))
	}
	return text
}

func TestPlaceOfAndRunesToAreInverse(t *testing.T) {
	random := rand.New(rand.NewSource(1))
	checkInverse(t, nil)
	checkInverse(t, sample())
	for range 300 {
		text := randomText(random)
		checkText(t, text)
		checkInverse(t, text)
	}
}

func TestBrokenTexts(t *testing.T) {
	random := rand.New(rand.NewSource(2))
	for range 1000 {
		data := randomText(random)
		for range 1 + random.Intn(3) {
			if len(data) == 0 {
				break
			}
			i := random.Intn(len(data))
			if random.Intn(2) == 0 {
				data[i] = byte(random.Intn(256))
			} else {
				data = slices.Delete(data, i, i+1)
			}
		}
		checkText(t, data)
	}
}

func TestArgumentsAreNotModified(t *testing.T) {
	for _, room := range [][]byte{sample(), slices.Concat(sample(), []byte{128}), {192, 128, 97, 195, 169}} {
		was := bytes.Clone(room)
		for n := range len(room) + 1 {
			checkText(t, room[:n])
			if !bytes.Equal(room, was) {
				t.Fatalf("%v became %v", was, room)
			}
		}
	}
}

func TestEncodingsAreNewlyAllocated(t *testing.T) {
	for _, r := range []int{97, 233, 8364, 128578} {
		first := impl.RuneBytes(r)
		second := impl.RuneBytes(r)
		for i := range first {
			first[i] = 0
		}
		if string(second) != string(rune(r)) || string(impl.RuneBytes(r)) != string(rune(r)) {
			t.Errorf("RuneBytes(%d) shares memory", r)
		}
	}
}
