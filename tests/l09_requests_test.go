package tests

import (
	"bytes"
	"encoding/binary"
	"fmt"
	"math"
	"math/rand"
	"slices"
	"strings"
	"testing"

	"loop.example/g00677/impl"
)

func req(kind int, session int, a int, b int, c int, text string) impl.Req {
	return impl.Req{Kind: kind, Session: session, A: a, B: b, C: c, Text: []byte(text)}
}

func reply(code int, a int, b int, text string) impl.Reply {
	return impl.Reply{Code: code, A: a, B: b, Text: []byte(text)}
}

func reqText(r impl.Req) string {
	return fmt.Sprintf("{%d %d %d %d %d %q}", r.Kind, r.Session, r.A, r.B, r.C, r.Text)
}

func replyText(r impl.Reply) string {
	return fmt.Sprintf("{%d %d %d %q}", r.Code, r.A, r.B, r.Text)
}

func sameReq(a impl.Req, b impl.Req) bool {
	return a.Kind == b.Kind && a.Session == b.Session && a.A == b.A && a.B == b.B && a.C == b.C && bytes.Equal(a.Text, b.Text)
}

func sameReply(a impl.Reply, b impl.Reply) bool {
	return a.Code == b.Code && a.A == b.A && a.B == b.B && bytes.Equal(a.Text, b.Text)
}

// usedFields follows the document: the numbers that each kind uses, with t for a Text and T for one that must not be empty.
func usedFields() map[int]string {
	return map[int]string{
		impl.ReqOpen: "", impl.ReqClose: "", impl.ReqUndo: "", impl.ReqRedo: "",
		impl.ReqInsert: "At", impl.ReqFind: "AT", impl.ReqBack: "AT", impl.ReqLine: "A",
		impl.ReqDelete: "AB", impl.ReqReplace: "ABt", impl.ReqRead: "AB", impl.ReqPlace: "AB", impl.ReqSelect: "AB", impl.ReqUnlock: "AB",
		impl.ReqLock: "ABC", impl.ReqRenew: "ABC",
	}
}

// usesText reports whether a kind uses Text, and whether that may be empty.
func usesText(kind int) (bool, bool) {
	used := usedFields()[kind]
	return strings.ContainsAny(used, "tT"), !strings.Contains(used, "T")
}

func numberOf(r impl.Req, field string) int {
	return map[string]int{"A": r.A, "B": r.B, "C": r.C}[field]
}

// withNumber puts n into the field A, B or C.
func withNumber(r impl.Req, field string, n int) impl.Req {
	switch field {
	case "A":
		r.A = n
	case "B":
		r.B = n
	case "C":
		r.C = n
	}
	return r
}

// reqOfKind has n in each number that the kind uses, and the text if the kind uses one.
func reqOfKind(kind int, session int, n int, text string) impl.Req {
	r := req(kind, session, 0, 0, 0, "")
	for _, field := range strings.Split("ABC", "") {
		if strings.Contains(usedFields()[kind], field) {
			r = withNumber(r, field, n)
		}
	}
	if uses, _ := usesText(kind); uses {
		r.Text = []byte(text)
	}
	return r
}

// leastReq has the least value in every field that the kind uses.
func leastReq(kind int) impl.Req {
	if _, mayBeEmpty := usesText(kind); !mayBeEmpty {
		return reqOfKind(kind, 1, 0, "a")
	}
	return reqOfKind(kind, 1, 0, "")
}

// greatestReq has the greatest value in every field that the kind uses.
func greatestReq(kind int) impl.Req {
	return reqOfKind(kind, 8, 65535, strings.Repeat("\u00e9", 50))
}

// someReqs are valid requests of all kinds.
func someReqs() []impl.Req {
	var list []impl.Req
	for kind := 1; kind <= 16; kind++ {
		list = append(list, leastReq(kind), reqOfKind(kind, 2, 258, "a\u20ac\n"), reqOfKind(kind, 7, 65280, "\x00"), greatestReq(kind))
	}
	return list
}

func modelWords(list ...int) bool {
	return slices.Min(list) >= 0 && slices.Max(list) <= 65535
}

func modelReq(r impl.Req) bool {
	used, known := usedFields()[r.Kind]
	if !known || r.Session < 1 || r.Session > 8 || !modelWords(r.A, r.B, r.C) || !isText(r.Text) || len(r.Text) > 100 {
		return false
	}
	for _, field := range []string{"A", "B", "C"} {
		if !strings.Contains(used, field) && numberOf(r, field) != 0 {
			return false
		}
	}
	uses, mayBeEmpty := usesText(r.Kind)
	return (uses || len(r.Text) == 0) && (mayBeEmpty || len(r.Text) > 0)
}

// rawReq writes the request whether or not it is valid: of a number that does not fit, only the low bytes.
func rawReq(r impl.Req) []byte {
	out := []byte{byte(r.Kind), byte(r.Session)}
	for _, n := range []int{r.A, r.B, r.C} {
		out = binary.BigEndian.AppendUint16(out, uint16(n))
	}
	return append(append(out, byte(len(r.Text))), r.Text...)
}

// modelParse reads the request that data would say, and looks whether it is valid and has the encoding data.
func modelParse(data []byte) (impl.Req, bool) {
	if len(data) < 9 {
		return impl.Req{}, false
	}
	word := func(at int) int { return int(binary.BigEndian.Uint16(data[at:])) }
	r := req(int(data[0]), int(data[1]), word(2), word(4), word(6), string(data[9:]))
	if !modelReq(r) || !bytes.Equal(rawReq(r), data) {
		return impl.Req{}, false
	}
	return r, true
}

func modelReply(r impl.Reply) bool {
	if r.Code != impl.RepFine {
		return r.Code >= 0 && r.Code <= 10 && sameReply(r, reply(r.Code, 0, 0, ""))
	}
	return modelWords(r.A, r.B) && isText(r.Text)
}

// rawReply writes the reply whether or not it is valid, as rawReq does.
func rawReply(r impl.Reply) []byte {
	out := []byte{byte(r.Code)}
	for _, n := range []int{r.A, r.B, len(r.Text)} {
		out = binary.BigEndian.AppendUint16(out, uint16(n))
	}
	return append(out, r.Text...)
}

func modelRead(data []byte) (impl.Reply, bool) {
	if len(data) < 7 {
		return impl.Reply{}, false
	}
	word := func(at int) int { return int(binary.BigEndian.Uint16(data[at:])) }
	r := reply(int(data[0]), word(1), word(3), string(data[7:]))
	if !modelReply(r) || !bytes.Equal(rawReply(r), data) {
		return impl.Reply{}, false
	}
	return r, true
}

func piecesFrom(texts ...string) []impl.Piece {
	var list []impl.Piece
	for _, s := range texts {
		list = append(list, impl.Piece{Data: []byte(s)})
	}
	return list
}

func textsOfPieces(list []impl.Piece) []string {
	var texts []string
	for _, p := range list {
		texts = append(texts, string(p.Data))
	}
	return texts
}

// rawFrames writes the pieces whether or not there are too many, or too long ones.
func rawFrames(texts ...string) []byte {
	var out []byte
	for _, s := range texts {
		out = append(binary.BigEndian.AppendUint16(out, uint16(len(s))), s...)
	}
	return out
}

// modelCut takes one piece after the other from a reader.
func modelCut(data []byte) ([]string, int) {
	var texts []string
	rest := bytes.NewReader(data)
	consumed := 0
	for len(texts) < 100 {
		var size uint16
		if binary.Read(rest, binary.BigEndian, &size) != nil || size > 1000 || int(size) > rest.Len() {
			break
		}
		piece := make([]byte, size)
		rest.Read(piece)
		texts = append(texts, string(piece))
		consumed += 2 + int(size)
	}
	return texts, consumed
}

// coding writes values as bytes and reads them again: the program's way, and the model of it.
type coding[V any] struct {
	name                string
	text                func(V) string
	same                func(V, V) bool
	isValid, modelValid func(V) bool
	encode, raw         func(V) []byte
	decode, modelDecode func([]byte) (V, bool)
}

func requests() coding[impl.Req] {
	return coding[impl.Req]{"Req", reqText, sameReq, impl.ReqOk, modelReq, impl.ReqBytes, rawReq, impl.ReqParse, modelParse}
}

func replies() coding[impl.Reply] {
	return coding[impl.Reply]{"Reply", replyText, sameReply, impl.ReplyOk, modelReply, impl.ReplyBytes, rawReply, impl.ReplyRead, modelRead}
}

// checkIs asserts that a value is valid or not, and that its encoding is decoded or refused.
func (c coding[V]) checkIs(t *testing.T, v V, want bool) {
	t.Helper()
	if c.modelValid(v) != want {
		t.Fatalf("the model of %s %s is wrong", c.name, c.text(v))
	}
	if got := c.isValid(v); got != want {
		t.Fatalf("%s %s is valid: %v", c.name, c.text(v), got)
	}
	data := c.encode(v)
	if !want {
		if len(data) != 0 {
			t.Fatalf("%s %s is encoded as %v", c.name, c.text(v), data)
		}
		c.checkDecoded(t, c.raw(v))
		return
	}
	if !bytes.Equal(data, c.raw(v)) {
		t.Fatalf("%s %s is encoded as %v, not %v", c.name, c.text(v), data, c.raw(v))
	}
	if got, ok := c.decode(data); !ok || !c.same(got, v) {
		t.Fatalf("%s %v is decoded as %s, %v, not %s", c.name, data, c.text(got), ok, c.text(v))
	}
}

func (c coding[V]) check(t *testing.T, v V) {
	t.Helper()
	c.checkIs(t, v, c.modelValid(v))
}

// checkDecoded compares the decoding with the model, and asserts that what is decoded is encoded as data.
func (c coding[V]) checkDecoded(t *testing.T, data []byte) {
	t.Helper()
	want, wantOk := c.modelDecode(data)
	got, ok := c.decode(data)
	if ok != wantOk || !c.same(got, want) {
		t.Fatalf("%s %v is decoded as %s, %v, not %s, %v", c.name, data, c.text(got), ok, c.text(want), wantOk)
	}
	if ok && !bytes.Equal(c.encode(got), data) {
		t.Fatalf("%s %s is encoded as %v, not %v", c.name, c.text(got), c.encode(got), data)
	}
}

// checkRefused asserts that data is decoded as the zero value and false.
func (c coding[V]) checkRefused(t *testing.T, data []byte) {
	t.Helper()
	var none V
	if got, ok := c.decode(data); ok || !c.same(got, none) {
		t.Fatalf("%s %v is decoded as %s, %v", c.name, data, c.text(got), ok)
	}
}

func checkReqIs(t *testing.T, r impl.Req, want bool) {
	t.Helper()
	requests().checkIs(t, r, want)
}

func checkReplyIs(t *testing.T, r impl.Reply, want bool) {
	t.Helper()
	replies().checkIs(t, r, want)
}

func checkNoParse(t *testing.T, data []byte) {
	t.Helper()
	requests().checkRefused(t, data)
}

func checkNoRead(t *testing.T, data []byte) {
	t.Helper()
	replies().checkRefused(t, data)
}

// checkFrames asserts that the pieces are encoded, and that they are decoded again.
func checkFrames(t *testing.T, texts ...string) {
	t.Helper()
	data := impl.FramesOf(piecesFrom(texts...))
	if !bytes.Equal(data, rawFrames(texts...)) {
		t.Fatalf("FramesOf(%q) = %v, want %v", texts, data, rawFrames(texts...))
	}
	checkCutTo(t, data, texts, len(data))
}

func checkNoFrames(t *testing.T, texts ...string) {
	t.Helper()
	if got := impl.FramesOf(piecesFrom(texts...)); len(got) != 0 {
		t.Fatalf("FramesOf(%q) = %v", texts, got)
	}
}

// checkCutTo asserts what FramesCut returns, and that it is encoded as what was consumed.
func checkCutTo(t *testing.T, data []byte, want []string, wantConsumed int) {
	t.Helper()
	list, consumed := impl.FramesCut(data)
	if got := textsOfPieces(list); !slices.Equal(got, want) || consumed != wantConsumed {
		t.Fatalf("FramesCut(%v) = %q, %d, want %q, %d", data, got, consumed, want, wantConsumed)
	}
	if again := impl.FramesOf(list); !bytes.Equal(again, data[:consumed]) {
		t.Fatalf("FramesOf(%q) = %v, want %v", want, again, data[:consumed])
	}
}

func checkCut(t *testing.T, data []byte) {
	t.Helper()
	want, consumed := modelCut(data)
	checkCutTo(t, data, want, consumed)
}

// validWords and wrongWords are the ends of the range of a word, of its low byte and of int, and what is next to them.
func validWords() []int {
	return []int{0, 1, 2, 127, 128, 254, 255, 256, 257, 511, 512, 32767, 32768, 65279, 65280, 65534, 65535}
}

func wrongWords() []int {
	return []int{math.MinInt, math.MinInt + 1, -1 << 32, -65537, -65536, -65535, -256, -2, -1, 65536, 65537, 65792, 131071, 131072, 1 << 24, 1 << 32, 1<<32 + 1, 1 << 62, math.MaxInt - 65535, math.MaxInt - 1, math.MaxInt}
}

// smallWrongs are outside the ranges of Kind, Session and Code, some of them with a low byte that is inside.
func smallWrongs() []int {
	return []int{math.MinInt, math.MinInt + 1, math.MinInt + 3, -65536, -65535, -256, -255, -254, -2, -1, 17, 18, 127, 128, 255, 256, 257, 258, 259, 260, 264, 272, 512, 513, 65536, 65537, 65539, 1 << 32, 1<<32 + 3, math.MaxInt - 1, math.MaxInt}
}

func TestRequestExamples(t *testing.T) {
	r := req(impl.ReqReplace, 2, 258, 3, 0, "ab")
	data := []byte{5, 2, 1, 2, 0, 3, 0, 0, 2, 'a', 'b'}
	checkReqIs(t, r, true)
	if got := impl.ReqBytes(r); !bytes.Equal(got, data) {
		t.Errorf("ReqBytes %v", got)
	}
	if got, ok := impl.ReqParse(data); !ok || !sameReq(got, r) {
		t.Errorf("ReqParse %s, %v", reqText(got), ok)
	}
	p := reply(0, 1, 512, "x")
	data = []byte{0, 0, 1, 2, 0, 0, 1, 'x'}
	checkReplyIs(t, p, true)
	if got := impl.ReplyBytes(p); !bytes.Equal(got, data) {
		t.Errorf("ReplyBytes %v", got)
	}
	if got, ok := impl.ReplyRead(data); !ok || !sameReply(got, p) {
		t.Errorf("ReplyRead %s, %v", replyText(got), ok)
	}
	data = []byte{0, 2, 'a', 'b', 0, 0}
	checkFrames(t, "ab", "")
	if got := impl.FramesOf(piecesFrom("ab", "")); !bytes.Equal(got, data) {
		t.Errorf("FramesOf %v", got)
	}
	checkCutTo(t, append(data, 0, 3, 'a'), []string{"ab", ""}, 6)
}

func TestProtocolNumbers(t *testing.T) {
	kinds := []int{impl.ReqOpen, impl.ReqClose, impl.ReqInsert, impl.ReqDelete, impl.ReqReplace, impl.ReqRead, impl.ReqFind, impl.ReqBack, impl.ReqLine, impl.ReqPlace, impl.ReqSelect, impl.ReqLock, impl.ReqRenew, impl.ReqUnlock, impl.ReqUndo, impl.ReqRedo}
	for i, kind := range kinds {
		if kind != i+1 {
			t.Errorf("kind %d is %d", i+1, kind)
		}
	}
	codes := []int{impl.RepFine, impl.RepForm, impl.RepWho, impl.RepTwice, impl.RepFull, impl.RepRange, impl.RepLocked, impl.RepNone, impl.RepClock, impl.RepBusy, impl.RepLate}
	for i, code := range codes {
		if code != i {
			t.Errorf("code %d is %d", i, code)
		}
	}
	if impl.MaxWord != 65535 || len(usedFields()) != 16 {
		t.Error(impl.MaxWord, len(usedFields()))
	}
}

// One request of each kind, and its bytes, as the document has them.
func TestRequestsOfEachKind(t *testing.T) {
	list := []struct {
		r    impl.Req
		want string
	}{
		{req(1, 1, 0, 0, 0, ""), "\x01\x01\x00\x00\x00\x00\x00\x00\x00"},
		{req(2, 2, 0, 0, 0, ""), "\x02\x02\x00\x00\x00\x00\x00\x00\x00"},
		{req(3, 3, 258, 0, 0, "xyz"), "\x03\x03\x01\x02\x00\x00\x00\x00\x03xyz"},
		{req(4, 4, 1, 2, 0, ""), "\x04\x04\x00\x01\x00\x02\x00\x00\x00"},
		{req(5, 5, 255, 256, 0, "\u00e9"), "\x05\x05\x00\xff\x01\x00\x00\x00\x02\xc3\xa9"},
		{req(6, 6, 0, 400, 0, ""), "\x06\x06\x00\x00\x01\x90\x00\x00\x00"},
		{req(7, 7, 65535, 0, 0, "\n"), "\x07\x07\xff\xff\x00\x00\x00\x00\x01\n"},
		{req(8, 8, 65280, 0, 0, "\x00\x00"), "\x08\x08\xff\x00\x00\x00\x00\x00\x02\x00\x00"},
		{req(9, 1, 4660, 0, 0, ""), "\x09\x01\x12\x34\x00\x00\x00\x00\x00"},
		{req(10, 2, 3, 4, 0, ""), "\x0a\x02\x00\x03\x00\x04\x00\x00\x00"},
		{req(11, 3, 4, 3, 0, ""), "\x0b\x03\x00\x04\x00\x03\x00\x00\x00"},
		{req(12, 4, 1, 2, 3, ""), "\x0c\x04\x00\x01\x00\x02\x00\x03\x00"},
		{req(13, 5, 256, 512, 768, ""), "\x0d\x05\x01\x00\x02\x00\x03\x00\x00"},
		{req(14, 6, 9, 8, 0, ""), "\x0e\x06\x00\x09\x00\x08\x00\x00\x00"},
		{req(15, 7, 0, 0, 0, ""), "\x0f\x07\x00\x00\x00\x00\x00\x00\x00"},
		{req(16, 8, 0, 0, 0, ""), "\x10\x08\x00\x00\x00\x00\x00\x00\x00"},
	}
	for _, x := range list {
		checkReqIs(t, x.r, true)
		if got := impl.ReqBytes(x.r); string(got) != x.want {
			t.Errorf("ReqBytes(%s) = %q, want %q", reqText(x.r), got, x.want)
		}
	}
}

// Each field that a kind uses takes every word; each other one takes 0 and nothing else.
func TestFieldsOfEachKind(t *testing.T) {
	for kind, used := range usedFields() {
		for _, r := range []impl.Req{leastReq(kind), reqOfKind(kind, 3, 1, "b"), greatestReq(kind)} {
			checkReqIs(t, r, true)
			for _, field := range []string{"A", "B", "C"} {
				uses := strings.Contains(used, field)
				for _, n := range validWords() {
					checkReqIs(t, withNumber(r, field, n), uses || n == 0)
				}
				for _, n := range wrongWords() {
					checkReqIs(t, withNumber(r, field, n), false)
				}
			}
		}
	}
}

// A Text has up to 100 bytes where the kind uses it, and none otherwise.
func TestTextsOfEachKind(t *testing.T) {
	for kind := range usedFields() {
		uses, mayBeEmpty := usesText(kind)
		for _, r := range []impl.Req{leastReq(kind), greatestReq(kind)} {
			for _, c := range []string{"a", "\x00", "\n", "\u00e9", "\u20ac", "\U0001f642"} {
				for _, n := range []int{0, 1, 2, 3, 4, 50, 99, 100, 101, 102, 127, 128, 200, 255, 256, 257, 356, 357, 400, 401, 512, 10000} {
					r.Text = textOfBytes(n, c)
					checkReqIs(t, r, uses && n <= 100 && n > 0 || n == 0 && mayBeEmpty)
				}
			}
			for _, text := range append(wrongTexts(), "\xed\xbf\xbf", "\xe0\x80\x80", "\xe0\x9f\xbf", "\xf0\x8f\xbf\xbf", "\xc1\xbf", "\xf8\x88\x80\x80\x80", "ab\xf0\x9f\x99", strings.Repeat("a", 99)+"\xc3", strings.Repeat("a", 99)+"\xff") {
				r.Text = []byte(text)
				checkReqIs(t, r, false)
			}
			// nil is the empty Text.
			r.Text = nil
			checkReqIs(t, r, mayBeEmpty)
		}
	}
	for _, empty := range []string{"", "a"} {
		checkReqIs(t, req(impl.ReqInsert, 1, 0, 0, 0, empty), true)
		checkReqIs(t, req(impl.ReqReplace, 1, 0, 0, 0, empty), true)
		checkReqIs(t, req(impl.ReqFind, 1, 0, 0, 0, empty), empty == "a")
		checkReqIs(t, req(impl.ReqBack, 1, 0, 0, 0, empty), empty == "a")
	}
}

func TestSessionsOfRequests(t *testing.T) {
	for kind := range usedFields() {
		for _, r := range []impl.Req{leastReq(kind), greatestReq(kind)} {
			for session := 1; session <= 8; session++ {
				r.Session = session
				checkReqIs(t, r, true)
			}
			for _, session := range append(smallWrongs(), 0, 9, 10, 16) {
				r.Session = session
				checkReqIs(t, r, false)
			}
		}
	}
}

func TestKindsOfRequests(t *testing.T) {
	for _, kind := range append(smallWrongs(), 0) {
		for _, session := range []int{0, 1, 8, 9} {
			for _, r := range []impl.Req{req(kind, session, 0, 0, 0, ""), req(kind, session, 1, 0, 0, ""), req(kind, session, 1, 2, 0, ""), req(kind, session, 1, 2, 3, ""), req(kind, session, 0, 0, 0, "a"), req(kind, session, 1, 2, 0, "a")} {
				checkReqIs(t, r, false)
			}
		}
	}
	checkReqIs(t, impl.Req{}, false)
	checkReqIs(t, req(1, 1, 0, 0, 0, ""), true)
	checkReqIs(t, req(16, 1, 0, 0, 0, ""), true)
}

// All fields at once have numbers at their limits, or extreme ones.
func TestRequestsOfExtremeFields(t *testing.T) {
	numbers := []int{math.MinInt, -1, 0, 1, 65535, 65536, math.MaxInt}
	for _, kind := range []int{math.MinInt, -1, 0, 1, 3, 4, 5, 7, 9, 12, 16, 17, math.MaxInt} {
		for _, session := range []int{math.MinInt, -1, 0, 1, 8, 9, math.MaxInt} {
			for _, a := range numbers {
				for _, b := range numbers {
					for _, c := range numbers {
						for _, text := range []string{"", "a", "\xff"} {
							requests().check(t, req(kind, session, a, b, c, text))
						}
					}
				}
			}
		}
	}
}

func TestRequestsThatEdit(t *testing.T) {
	for kind := -300; kind <= 300; kind++ {
		want := kind == 3 || kind == 4 || kind == 5
		// The request need not be valid.
		for _, r := range []impl.Req{req(kind, 1, 0, 0, 0, ""), req(kind, 0, 0, 0, 0, ""), req(kind, 9, -1, 65536, 7, "\xff"), {Kind: kind}, reqOfKind(kind, 8, 65535, "a"), req(kind, math.MinInt, math.MaxInt, math.MinInt, 1, strings.Repeat("a", 401))} {
			if got := impl.ReqEdits(r); got != want {
				t.Fatalf("ReqEdits(%s) = %v", reqText(r), got)
			}
		}
	}
	for _, kind := range []int{math.MinInt, math.MinInt + 3, 1<<32 + 3, math.MaxInt} {
		if impl.ReqEdits(impl.Req{Kind: kind, Session: 1}) {
			t.Errorf("ReqEdits of kind %d", kind)
		}
	}
}

// Of each valid encoding, all parts that are too short, and all that has more behind it.
func TestLengthsOfEncodedRequests(t *testing.T) {
	checkNoParse(t, nil)
	checkNoParse(t, []byte{})
	list := someReqs()
	for n := range 101 {
		for _, kind := range []int{impl.ReqInsert, impl.ReqReplace, impl.ReqFind, impl.ReqBack} {
			if n > 0 || kind == impl.ReqInsert || kind == impl.ReqReplace {
				list = append(list, reqOfKind(kind, 1+n%8, n, strings.Repeat("a", n)))
			}
		}
	}
	for _, r := range list {
		data := impl.ReqBytes(r)
		if len(data) != 9+len(r.Text) {
			t.Fatalf("ReqBytes(%s) = %v", reqText(r), data)
		}
		for n := range data {
			checkNoParse(t, data[:n])
			checkNoParse(t, data[n+1:])
		}
		for _, more := range []string{"\x00", "a", "\xff", "\x80", "ab", strings.Repeat("\x00", 9), strings.Repeat("a", 256), string(data), strings.Repeat("a", 400)} {
			checkNoParse(t, append(bytes.Clone(data), more...))
			checkNoParse(t, append([]byte(more), data...))
		}
	}
}

// The length byte says every number but the right one, and every number of bytes follows that it can say.
func TestLengthBytesOfRequests(t *testing.T) {
	for _, r := range someReqs() {
		data := impl.ReqBytes(r)
		for n := range 256 {
			data[8] = byte(n)
			if n != len(r.Text) {
				checkNoParse(t, data)
			}
		}
	}
	for kind := range usedFields() {
		uses, mayBeEmpty := usesText(kind)
		for n := range 520 {
			r := reqOfKind(kind, 1, 7, "")
			r.Text = []byte(strings.Repeat("a", n))
			want := uses && n <= 100 && n > 0 || n == 0 && mayBeEmpty
			checkReqIs(t, r, want)
			if !want {
				checkNoParse(t, rawReq(r))
			}
		}
	}
}

// An encoding that is valid but for its Text, which is no text.
func TestEncodedRequestsWithoutATextInText(t *testing.T) {
	wrong := []string{"\xc0\x80", "\xc1\xbf", "\xe0\x80\x80", "\xe0\x9f\xbf", "\xf0\x80\x80\x80", "\xf0\x8f\xbf\xbf", "\xc3", "\xe2\x82", "\xf0\x9f\x99", "\xed\xa0\x80", "\xed\xbf\xbf", "\xf4\x90\x80\x80", "\xf8\x88\x80\x80\x80", "\x80", "\xbf", "\xfe", "\xff"}
	for _, kind := range []int{impl.ReqInsert, impl.ReqReplace, impl.ReqFind, impl.ReqBack} {
		for _, form := range wrong {
			for _, text := range []string{form, "a" + form, form + "a", "\u20ac" + form + "\u20ac", strings.Repeat("a", 100-len(form)) + form, form + strings.Repeat("a", 100-len(form))} {
				r := reqOfKind(kind, 1, 0, text)
				checkReqIs(t, r, false)
				checkNoParse(t, rawReq(r))
			}
		}
		// A form that is cut off by the length byte, with the rest of it behind.
		checkNoParse(t, append(rawReq(reqOfKind(kind, 1, 0, "\xe2\x82")), 0xac))
	}
}

// Each byte of valid encodings, one after the other, takes every value.
func TestEveryByteOfEncodedRequests(t *testing.T) {
	valid := 0
	for _, r := range someReqs() {
		data := impl.ReqBytes(r)
		for i, was := range data {
			for n := range 256 {
				data[i] = byte(n)
				requests().checkDecoded(t, data)
				if _, ok := impl.ReqParse(data); ok {
					valid++
				}
			}
			data[i] = was
		}
	}
	if valid < 10000 {
		t.Errorf("only %d of the encodings are valid", valid)
	}
}

// Each field of valid encodings, one after the other, takes a value that it may not have.
func TestEncodedRequestsWithOneWrongField(t *testing.T) {
	for kind, used := range usedFields() {
		for _, r := range []impl.Req{leastReq(kind), greatestReq(kind)} {
			for n := range 256 {
				if n < 1 || n > 16 {
					checkNoParse(t, rawReq(impl.Req{Kind: n, Session: r.Session, A: r.A, B: r.B, C: r.C, Text: r.Text}))
				}
				if n < 1 || n > 8 {
					checkNoParse(t, rawReq(impl.Req{Kind: kind, Session: n, A: r.A, B: r.B, C: r.C, Text: r.Text}))
				}
			}
			for _, field := range []string{"A", "B", "C"} {
				for _, n := range validWords() {
					if !strings.Contains(used, field) && n != 0 {
						checkNoParse(t, rawReq(withNumber(r, field, n)))
					}
				}
			}
			if uses, mayBeEmpty := usesText(kind); !uses {
				checkNoParse(t, append(rawReq(r)[:8], 1, 'a'))
			} else if !mayBeEmpty {
				checkNoParse(t, append(rawReq(r)[:8], 0))
			}
		}
	}
	for kind := range 256 {
		for session := range 256 {
			data := []byte{byte(kind), byte(session), 0, 0, 0, 0, 0, 0, 0}
			_, ok := impl.ReqParse(data)
			if want := kind >= 1 && kind <= 16 && kind != 7 && kind != 8 && session >= 1 && session <= 8; ok != want {
				t.Fatalf("ReqParse(%v) is %v", data, ok)
			}
			requests().checkDecoded(t, data)
		}
	}
}

// Encodings of requests, replies and pieces are told apart by nothing but their use, so that each is tried as each.
func TestDataOfAnotherKind(t *testing.T) {
	var all []string
	for _, r := range someReqs() {
		all = append(all, string(rawReq(r)))
	}
	for _, r := range someReplies() {
		all = append(all, string(rawReply(r)))
	}
	all = append(all, string(rawFrames(all[:50]...)), string(sample()))
	for _, data := range all {
		requests().checkDecoded(t, []byte(data))
		replies().checkDecoded(t, []byte(data))
		checkCut(t, []byte(data))
	}
}

func randomWord(random *rand.Rand) int {
	switch random.Intn(4) {
	case 0:
		return 0
	case 1:
		return random.Intn(65536)
	case 2:
		return random.Intn(400)
	}
	all := append(validWords(), wrongWords()...)
	return all[random.Intn(len(all))]
}

// randomReq is valid more often than not, and a little wrong otherwise.
func randomReq(random *rand.Rand) impl.Req {
	text := randomText(random)
	for len(text) > 100 && random.Intn(20) > 0 {
		text = randomText(random)
	}
	r := reqOfKind(1+random.Intn(16), 1+random.Intn(8), random.Intn(65536), string(text))
	for _, field := range []string{"A", "B", "C"} {
		if random.Intn(6) == 0 {
			r = withNumber(r, field, randomWord(random))
		}
	}
	switch random.Intn(12) {
	case 0:
		r.Kind = random.Intn(20) - 1
	case 1:
		r.Session = random.Intn(12) - 1
	case 2:
		r.Text = text
	case 3:
		r.Text = append(r.Text, byte(128+random.Intn(128)))
	}
	return r
}

// checkBroken changes an encoding here and there, and checks what it then is.
func checkBroken(random *rand.Rand, data []byte, check func(data []byte)) {
	for range 1 + random.Intn(3) {
		i := random.Intn(len(data) + 1)
		switch {
		case random.Intn(3) == 0 || i == len(data):
			data = slices.Insert(data, i, byte(random.Intn(256)))
		case random.Intn(2) == 0:
			data = slices.Delete(data, i, i+1)
		default:
			data[i] = byte(random.Intn(256))
		}
		check(bytes.Clone(data))
	}
}

func TestRandomRequests(t *testing.T) {
	random := rand.New(rand.NewSource(91))
	valid := 0
	for range 20000 {
		r := randomReq(random)
		requests().check(t, r)
		if modelReq(r) {
			valid++
		}
		checkBroken(random, rawReq(r), func(data []byte) { requests().checkDecoded(t, data) })
	}
	if valid < 5000 || valid > 19000 {
		t.Errorf("%d of the requests are valid", valid)
	}
}

// someReplies are valid.
func someReplies() []impl.Reply {
	list := []impl.Reply{{}, reply(0, 1, 512, "x"), reply(0, 65535, 0, ""), reply(0, 0, 65535, "a\u20ac\n"), reply(0, 258, 772, strings.Repeat("a", 255)), reply(0, 65280, 255, strings.Repeat("\u00e9", 128)), reply(0, 65535, 65535, strings.Repeat("a", 400))}
	for code := 1; code <= 10; code++ {
		list = append(list, impl.Reply{Code: code})
	}
	return list
}

func TestCodesOfReplies(t *testing.T) {
	for code := range 11 {
		checkReplyIs(t, impl.Reply{Code: code}, true)
		if got, want := impl.ReplyBytes(impl.Reply{Code: code}), string([]byte{byte(code), 0, 0, 0, 0, 0, 0}); string(got) != want {
			t.Errorf("the reply %d is encoded as %v", code, got)
		}
	}
	for _, code := range append(smallWrongs(), 11, 12, 16) {
		checkReplyIs(t, impl.Reply{Code: code}, false)
		checkReplyIs(t, reply(code, 1, 2, "a"), false)
	}
	for code := 11; code < 256; code++ {
		checkNoRead(t, rawReply(impl.Reply{Code: code}))
		checkNoRead(t, rawReply(reply(code, 1, 2, "a")))
	}
}

// With any code but RepFine, no other field has a value.
func TestRepliesThatAreNotFine(t *testing.T) {
	for code := 1; code <= 10; code++ {
		for _, n := range append(validWords(), wrongWords()...) {
			checkReplyIs(t, reply(code, n, 0, ""), n == 0)
			checkReplyIs(t, reply(code, 0, n, ""), n == 0)
			checkReplyIs(t, reply(code, n, n, ""), n == 0)
			if n > 0 && n <= 65535 {
				checkNoRead(t, rawReply(reply(code, n, 0, "")))
				checkNoRead(t, rawReply(reply(code, 0, n, "")))
			}
		}
		for _, text := range []string{"a", "\x00", "\u20ac", "\xff", strings.Repeat("a", 400), strings.Repeat("a", 401)} {
			checkReplyIs(t, reply(code, 0, 0, text), false)
			checkNoRead(t, rawReply(reply(code, 0, 0, text)))
		}
	}
}

func TestNumbersOfReplies(t *testing.T) {
	for _, text := range []string{"", "a", strings.Repeat("\u20ac", 100)} {
		for _, n := range validWords() {
			for _, m := range validWords() {
				checkReplyIs(t, reply(0, n, m, text), true)
			}
		}
		for _, n := range wrongWords() {
			for _, m := range []int{0, 1, 65535, n} {
				checkReplyIs(t, reply(0, n, m, text), false)
				checkReplyIs(t, reply(0, m, n, text), false)
			}
		}
	}
}

func TestTextsOfReplies(t *testing.T) {
	for _, c := range []string{"a", "\x00", "\n", "\u00e9", "\u20ac", "\U0001f642"} {
		for n := range 420 {
			r := reply(0, 3, 4, string(textOfBytes(n, c)))
			checkReplyIs(t, r, n <= 400)
			if n > 400 {
				checkNoRead(t, rawReply(r))
			}
		}
		// The low bytes of these lengths say less.
		for _, n := range []int{511, 512, 513, 65535, 65536, 65537, 65936} {
			r := reply(0, 3, 4, string(textOfBytes(n, c)))
			checkReplyIs(t, r, false)
			checkNoRead(t, rawReply(r))
		}
	}
	wrong := append(wrongTexts(), "\xc1\xbf", "\xe0\x80\x80", "\xe0\x9f\xbf", "\xf0\x8f\xbf\xbf", "\xed\xbf\xbf", "\xf8\x88\x80\x80\x80", strings.Repeat("a", 399)+"\xc3", "\xe2\x82"+strings.Repeat("a", 398))
	for _, text := range wrong {
		checkReplyIs(t, reply(0, 1, 2, text), false)
		checkNoRead(t, rawReply(reply(0, 1, 2, text)))
	}
	checkReplyIs(t, impl.Reply{A: 1}, true)
	checkReplyIs(t, impl.Reply{A: 1, Text: []byte{}}, true)
}

func TestRepliesOfExtremeFields(t *testing.T) {
	numbers := []int{math.MinInt, -65536, -1, 0, 1, 65535, 65536, math.MaxInt}
	for _, code := range []int{math.MinInt, -256, -1, 0, 1, 9, 10, 11, 255, 256, math.MaxInt} {
		for _, a := range numbers {
			for _, b := range numbers {
				for _, text := range []string{"", "a", "\xff", strings.Repeat("a", 400), strings.Repeat("a", 401)} {
					replies().check(t, reply(code, a, b, text))
				}
			}
		}
	}
}

// Of each valid encoding, all parts that are too short, and all that has more behind it.
func TestLengthsOfEncodedReplies(t *testing.T) {
	checkNoRead(t, nil)
	checkNoRead(t, []byte{})
	list := someReplies()
	for n := range 401 {
		list = append(list, reply(0, n, 2*n, strings.Repeat("a", n)))
	}
	for _, r := range list {
		data := impl.ReplyBytes(r)
		if len(data) != 7+len(r.Text) {
			t.Fatalf("ReplyBytes(%s) = %v", replyText(r), data)
		}
		for n := range data {
			checkNoRead(t, data[:n])
		}
		for _, more := range []string{"\x00", "a", "\xff", "\x80", "ab", strings.Repeat("\x00", 7), strings.Repeat("a", 256), string(data)} {
			checkNoRead(t, append(bytes.Clone(data), more...))
		}
	}
}

// Both length bytes say every number but the right one.
func TestLengthBytesOfReplies(t *testing.T) {
	for _, r := range someReplies() {
		data := impl.ReplyBytes(r)
		for n := range 65536 {
			binary.BigEndian.PutUint16(data[5:], uint16(n))
			if n != len(r.Text) {
				checkNoRead(t, data)
			}
		}
	}
}

// Each byte of valid encodings, one after the other, takes every value.
func TestEveryByteOfEncodedReplies(t *testing.T) {
	valid := 0
	for _, r := range someReplies() {
		data := impl.ReplyBytes(r)
		for i, was := range data {
			for n := range 256 {
				data[i] = byte(n)
				replies().checkDecoded(t, data)
				if _, ok := impl.ReplyRead(data); ok {
					valid++
				}
			}
			data[i] = was
		}
	}
	if valid < 10000 {
		t.Errorf("only %d of the encodings are valid", valid)
	}
}

func TestRandomReplies(t *testing.T) {
	random := rand.New(rand.NewSource(92))
	valid := 0
	for range 10000 {
		r := impl.Reply{Code: max(0, random.Intn(26)-13)}
		if r.Code == 0 || random.Intn(6) == 0 {
			r.A, r.B, r.Text = randomWord(random), randomWord(random), randomText(random)
		}
		replies().check(t, r)
		if modelReply(r) {
			valid++
		}
		checkBroken(random, rawReply(r), func(data []byte) { replies().checkDecoded(t, data) })
	}
	if valid < 2000 || valid > 9000 {
		t.Errorf("%d of the replies are valid", valid)
	}
}

// pieceOf is a piece of n bytes, which need not be a text.
func pieceOf(n int) string {
	var out []byte
	for i := range n {
		out = append(out, byte(7*i+n))
	}
	return string(out)
}

func TestCountsOfPieces(t *testing.T) {
	checkFrames(t)
	for _, piece := range []string{"", "a", pieceOf(300), pieceOf(1000)} {
		for _, n := range []int{1, 2, 99, 100} {
			checkFrames(t, slices.Repeat([]string{piece}, n)...)
		}
		for _, n := range []int{101, 102, 200, 256, 300, 5000} {
			list := slices.Repeat([]string{piece}, n)
			checkNoFrames(t, list...)
			checkCutTo(t, rawFrames(list...), list[:100], 100*(2+len(piece)))
		}
	}
	for _, list := range [][]impl.Piece{nil, {}} {
		if got := impl.FramesOf(list); len(got) != 0 {
			t.Errorf("FramesOf of no pieces: %v", got)
		}
	}
	if got := impl.FramesOf(make([]impl.Piece, 2)); !bytes.Equal(got, make([]byte, 4)) {
		t.Errorf("FramesOf of two pieces that are nil: %v", got)
	}
	if list, consumed := impl.FramesCut(make([]byte, 199)); len(list) != 99 || consumed != 198 {
		t.Errorf("FramesCut of 199 zeros: %d, %d", len(list), consumed)
	}
}

func TestSizesOfPieces(t *testing.T) {
	for _, n := range []int{0, 1, 2, 254, 255, 256, 257, 511, 512, 767, 768, 998, 999, 1000} {
		checkFrames(t, pieceOf(n))
		checkFrames(t, "ab", pieceOf(n))
		checkFrames(t, pieceOf(n), "ab")
		checkFrames(t, pieceOf(n), "", pieceOf(n), "\xff")
		data := impl.FramesOf(piecesFrom(pieceOf(n)))
		if len(data) != n+2 || int(data[0]) != n/256 || int(data[1]) != n%256 {
			t.Errorf("a piece of %d bytes is encoded as %v", n, data)
		}
	}
	for _, n := range []int{1001, 1002, 1023, 1024, 1256, 2000, 65535, 65536, 65537, 66536, 66537, 131072} {
		long := pieceOf(n)
		checkNoFrames(t, long)
		checkNoFrames(t, long, "ab")
		checkNoFrames(t, "ab", "", long)
		checkNoFrames(t, "ab", long, "c")
		checkNoFrames(t, append(slices.Repeat([]string{"a"}, 99), long)...)
		checkNoFrames(t, append(slices.Repeat([]string{"a"}, 100), long)...)
	}
	// Many pieces that are long, but not too long, and one that is.
	full := slices.Repeat([]string{pieceOf(1000)}, 100)
	checkFrames(t, full...)
	for _, i := range []int{0, 50, 99} {
		list := slices.Clone(full)
		list[i] = pieceOf(1001)
		checkNoFrames(t, list...)
		checkCutTo(t, rawFrames(list...), list[:i], i*1002)
	}
}

// The data ends everywhere: within a length, right behind one, within a piece and right behind one.
func TestFramesThatAreCutOff(t *testing.T) {
	checkCutTo(t, nil, nil, 0)
	checkCutTo(t, []byte{}, nil, 0)
	checkCutTo(t, []byte{0}, nil, 0)
	checkCutTo(t, []byte{3}, nil, 0)
	checkCutTo(t, []byte{255}, nil, 0)
	checkCutTo(t, []byte{0, 0}, []string{""}, 2)
	checkCutTo(t, []byte{0, 1}, nil, 0)
	checkCutTo(t, []byte{1, 0}, nil, 0)
	checkCutTo(t, []byte{0, 1, 'a'}, []string{"a"}, 3)
	checkCutTo(t, []byte{0, 2, 'a'}, nil, 0)
	checkCutTo(t, []byte{0, 1, 'a', 0}, []string{"a"}, 3)
	checkCutTo(t, []byte{0, 1, 'a', 0, 2}, []string{"a"}, 3)
	checkCutTo(t, []byte{0, 1, 'a', 0, 2, 'b'}, []string{"a"}, 3)
	checkCutTo(t, []byte{0, 1, 'a', 0, 2, 'b', 'c'}, []string{"a", "bc"}, 7)
	checkCutTo(t, []byte{0, 1, 'a', 0, 0, 0}, []string{"a", ""}, 5)
	for _, texts := range [][]string{{"ab", "", "c"}, {pieceOf(300), "", "", pieceOf(1000), "a"}, {"", "", ""}, {pieceOf(256), pieceOf(255)}} {
		whole := rawFrames(texts...)
		complete, end := 0, 0
		for n := range len(whole) + 1 {
			// Every piece is complete as soon as its last byte is there.
			for complete < len(texts) && n >= end+2+len(texts[complete]) {
				end += 2 + len(texts[complete])
				complete++
			}
			checkCutTo(t, whole[:n], texts[:complete], end)
		}
		if complete != len(texts) {
			t.Fatalf("only %d of %d pieces are complete", complete, len(texts))
		}
	}
}

// Two bytes say every length, and enough bytes follow for each of them.
func TestEveryLengthOfAPiece(t *testing.T) {
	data := []byte("\x00\x02ab\x00\x00" + strings.Repeat("\xff", 66000))
	for n := range 65536 {
		binary.BigEndian.PutUint16(data[4:], uint16(n))
		want, consumed := []string{"ab"}, 4
		if n <= 1000 {
			want, consumed = []string{"ab", strings.Repeat("\xff", n)}, 6+n
		}
		list, got := impl.FramesCut(data)
		if got != consumed || !slices.Equal(textsOfPieces(list), want) {
			t.Fatalf("with a piece of %d bytes, %d bytes are consumed, in %d pieces", n, got, len(list))
		}
	}
}

// A piece of 1001 bytes ends the decoding, whatever is behind it.
func TestFramesThatAreTooLong(t *testing.T) {
	long := pieceOf(1001)
	checkCutTo(t, rawFrames(long), nil, 0)
	checkCutTo(t, rawFrames(long, "ab", "c"), nil, 0)
	checkCutTo(t, rawFrames("ab", long), []string{"ab"}, 4)
	checkCutTo(t, rawFrames("ab", "", long, "c"), []string{"ab", ""}, 6)
	checkCutTo(t, rawFrames("ab", pieceOf(1000), long, "c"), []string{"ab", pieceOf(1000)}, 1006)
	// Nothing but its length is there.
	checkCutTo(t, append(rawFrames("ab"), 3, 233), []string{"ab"}, 4)
	checkCutTo(t, append(rawFrames("ab"), 3, 232), []string{"ab"}, 4)
	checkCutTo(t, append(rawFrames("ab"), 255, 255), []string{"ab"}, 4)
	// It is the last of a hundred pieces, or behind them.
	row := slices.Repeat([]string{"a"}, 100)
	checkCutTo(t, rawFrames(append(slices.Clone(row[:99]), long)...), row[:99], 297)
	checkCutTo(t, rawFrames(append(slices.Clone(row), long)...), row, 300)
}

// What is not consumed is decoded next, so that no piece is lost.
func TestFramesInSeveralParts(t *testing.T) {
	var texts []string
	for n := range 350 {
		texts = append(texts, pieceOf(n%23))
	}
	data := rawFrames(texts...)
	counts := []int{}
	var all []string
	for len(data) > 0 {
		list, consumed := impl.FramesCut(data)
		if consumed == 0 {
			t.Fatalf("nothing is consumed of %d bytes", len(data))
		}
		counts = append(counts, len(list))
		all = append(all, textsOfPieces(list)...)
		data = data[consumed:]
	}
	if !slices.Equal(counts, []int{100, 100, 100, 50}) || !slices.Equal(all, texts) {
		t.Errorf("%v pieces are decoded", counts)
	}
	// More than a hundred pieces, and a part of another one.
	data = rawFrames(texts[:101]...)
	for n := range 60 {
		checkCut(t, data[:len(data)-n])
	}
}

func TestRandomFrames(t *testing.T) {
	random := rand.New(rand.NewSource(93))
	for range 3000 {
		var texts []string
		for range random.Intn(8) {
			texts = append(texts, pieceOf(random.Intn(1+random.Intn(1000))))
		}
		checkFrames(t, texts...)
		checkBroken(random, rawFrames(texts...), func(data []byte) { checkCut(t, data) })
	}
	for range 3000 {
		// Small bytes, so that many of them are lengths.
		data := make([]byte, random.Intn(400))
		for i := range data {
			data[i] = byte(random.Intn(1 + random.Intn(6)))
		}
		checkCut(t, data)
	}
}

// Requests and replies are sent as pieces.
func TestRequestsInFrames(t *testing.T) {
	var list []impl.Piece
	for _, r := range someReqs() {
		list = append(list, impl.Piece{Data: impl.ReqBytes(r)})
	}
	for _, r := range someReplies() {
		list = append(list, impl.Piece{Data: impl.ReplyBytes(r)})
	}
	data := impl.FramesOf(list)
	pieces, consumed := impl.FramesCut(data)
	if len(pieces) != len(list) || consumed != len(data) {
		t.Fatalf("of %d pieces %d are decoded", len(list), len(pieces))
	}
	for i, r := range someReqs() {
		if got, ok := impl.ReqParse(pieces[i].Data); !ok || !sameReq(got, r) {
			t.Errorf("%s became %s, %v", reqText(r), reqText(got), ok)
		}
	}
	for i, r := range someReplies() {
		if got, ok := impl.ReplyRead(pieces[len(someReqs())+i].Data); !ok || !sameReply(got, r) {
			t.Errorf("%s became %s, %v", replyText(r), replyText(got), ok)
		}
	}
}

// piecesAsRope lets the bytes of pieces be treated like those of a rope.
func piecesAsRope(list []impl.Piece) impl.Rope {
	var r impl.Rope
	for _, p := range list {
		r.Chunks = append(r.Chunks, impl.Chunk{Data: p.Data})
	}
	return r
}

// roomyPieces have other pieces behind the end of the list, and other bytes behind each piece, all of which the rope shows.
func roomyPieces(texts ...string) ([]impl.Piece, impl.Rope) {
	r := roomyRope(texts...)
	var list []impl.Piece
	for _, c := range r.Chunks[:cap(r.Chunks)] {
		list = append(list, impl.Piece{Data: c.Data})
	}
	return list[:len(texts)], r
}

func TestRequestsShareNoMemory(t *testing.T) {
	list := append(someReqs(), req(0, 1, 0, 0, 0, "abc"), req(impl.ReqLine, 1, 0, 0, 0, "abc"), req(impl.ReqInsert, 1, 0, 0, 0, "ab\xff"))
	for _, r := range list {
		text := roomyRope(string(r.Text))
		roomy := r
		roomy.Text = text.Chunks[0].Data
		checkOwnRopes(t, "ReqBytes", func() []impl.Rope {
			impl.ReqOk(roomy)
			impl.ReqEdits(roomy)
			return []impl.Rope{bytesAsRope(impl.ReqBytes(roomy))}
		}, text)
		data := roomyRope(string(rawReq(r)))
		checkOwnRopes(t, "ReqParse", func() []impl.Rope {
			got, _ := impl.ReqParse(data.Chunks[0].Data)
			return []impl.Rope{bytesAsRope(got.Text)}
		}, data)
	}
}

func TestRepliesShareNoMemory(t *testing.T) {
	for _, r := range append(someReplies(), reply(1, 0, 0, "abc"), reply(0, 0, 0, "ab\xff"), reply(11, 0, 0, "")) {
		text := roomyRope(string(r.Text))
		roomy := r
		roomy.Text = text.Chunks[0].Data
		checkOwnRopes(t, "ReplyBytes", func() []impl.Rope {
			impl.ReplyOk(roomy)
			return []impl.Rope{bytesAsRope(impl.ReplyBytes(roomy))}
		}, text)
		data := roomyRope(string(rawReply(r)))
		checkOwnRopes(t, "ReplyRead", func() []impl.Rope {
			got, _ := impl.ReplyRead(data.Chunks[0].Data)
			return []impl.Rope{bytesAsRope(got.Text)}
		}, data)
	}
}

func TestFramesShareNoMemory(t *testing.T) {
	for _, texts := range [][]string{{}, {""}, {"ab"}, {"ab", "", "c"}, {"", "", "abcdefgh\xff"}, {pieceOf(256), "a", pieceOf(1000)}, {"a", pieceOf(1001)}} {
		list, memory := roomyPieces(texts...)
		before := textsOfPieces(list[:cap(list)])
		checkOwnRopes(t, "FramesOf", func() []impl.Rope {
			data := impl.FramesOf(list)
			if got := textsOfPieces(list[:cap(list)]); !slices.Equal(got, before) {
				t.Fatalf("FramesOf: the pieces %q became %q", before, got)
			}
			return []impl.Rope{bytesAsRope(data)}
		}, memory)
		data := roomyRope(string(rawFrames(texts...)))
		checkOwnRopes(t, "FramesCut", func() []impl.Rope {
			got, _ := impl.FramesCut(data.Chunks[0].Data)
			return []impl.Rope{piecesAsRope(got)}
		}, data)
	}
}

// What is behind the end of the data would complete it, and must not be read.
func TestProtocolReadsNothingBehindTheEnd(t *testing.T) {
	whole := rawReq(req(impl.ReqInsert, 1, 0, 0, 0, "ab\xe2\x82\xac"))
	for n := range whole {
		checkNoParse(t, whole[:n])
	}
	whole = rawReply(reply(0, 1, 2, "ab\xe2\x82\xac"))
	for n := range whole {
		checkNoRead(t, whole[:n])
	}
	whole = rawFrames("ab", "cde")
	checkCutTo(t, whole[:len(whole)-1], []string{"ab"}, 4)
	list := piecesFrom("ab", "c", pieceOf(1001))
	if got := impl.FramesOf(list[:2]); !bytes.Equal(got, rawFrames("ab", "c")) {
		t.Errorf("FramesOf %v", got)
	}
	text := []byte("a\xe2\x82\xac\xff")
	checkReqIs(t, impl.Req{Kind: impl.ReqInsert, Session: 1, Text: text[:4]}, true)
	checkReqIs(t, impl.Req{Kind: impl.ReqInsert, Session: 1, Text: text[:3]}, false)
	checkReqIs(t, impl.Req{Kind: impl.ReqOpen, Session: 1, Text: text[:0]}, true)
	checkReqIs(t, impl.Req{Kind: impl.ReqFind, Session: 1, Text: text[:0]}, false)
	checkReplyIs(t, impl.Reply{Text: text[:4]}, true)
	checkReplyIs(t, impl.Reply{Text: text[:3]}, false)
	checkReplyIs(t, impl.Reply{Code: impl.RepWho, Text: text[:0]}, true)
}
