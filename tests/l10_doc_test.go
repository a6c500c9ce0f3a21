package tests

import (
	"bytes"
	"fmt"
	"math"
	"math/rand"
	"reflect"
	"slices"
	"strings"
	"testing"

	"loop.example/g00677/impl"
)

func docOf(text string) impl.Doc {
	return impl.Doc{Start: []byte(text), Text: []byte(text)}
}

func commit(session int, at int, cut int, put string) impl.Commit {
	return impl.Commit{Session: session, Edit: edit(at, cut, put)}
}

func commits(list ...impl.Commit) []impl.Commit {
	return list
}

func member(session int, from int, to int, s impl.Stack) impl.Member {
	return impl.Member{Session: session, Sel: impl.Sel{From: from, To: to}, Stack: s}
}

func members(list ...impl.Member) []impl.Member {
	return list
}

// membersOf are sessions that have done nothing yet.
func membersOf(sessions ...int) []impl.Member {
	var list []impl.Member
	for _, session := range sessions {
		list = append(list, member(session, 0, 0, impl.Stack{}))
	}
	return list
}

func sameCommit(a impl.Commit, b impl.Commit) bool {
	return a.Session == b.Session && sameEdit(a.Edit, b.Edit)
}

func sameMember(a impl.Member, b impl.Member) bool {
	return a.Session == b.Session && a.Sel == b.Sel && sameStack(a.Stack, b.Stack)
}

func sameDoc(a impl.Doc, b impl.Doc) bool {
	return bytes.Equal(a.Start, b.Start) && bytes.Equal(a.Text, b.Text) && slices.EqualFunc(a.Log, b.Log, sameCommit) && a.Clock == b.Clock && slices.EqualFunc(a.Members, b.Members, sameMember) && slices.Equal(a.Leases, b.Leases)
}

func commitTexts(list []impl.Commit) string {
	var all []string
	for _, c := range list {
		all = append(all, fmt.Sprint(c.Session, editText(c.Edit)))
	}
	return strings.Join(all, ", ")
}

func memberText(m impl.Member) string {
	return fmt.Sprintf("{%d %v %s}", m.Session, m.Sel, stackText(m.Stack))
}

func memberTexts(list []impl.Member) string {
	var all []string
	for _, m := range list {
		all = append(all, memberText(m))
	}
	return strings.Join(all, ", ")
}

func docText(d impl.Doc) string {
	return fmt.Sprintf("start %q text %q log [%s] clock %d members [%s] leases %v", d.Start, d.Text, commitTexts(d.Log), d.Clock, memberTexts(d.Members), d.Leases)
}

// modelFits follows the document: the conditions of a valid edit, apart from the length of the result.
func modelFits(text string, e impl.Edit) bool {
	places := wantBoundaries([]byte(text))
	return e.Cut >= 0 && e.Cut <= 400 && isText(e.Put) && slices.Contains(places, e.At) && slices.Contains(places, e.At+e.Cut)
}

func modelIsPlace(d impl.Doc, places ...int) bool {
	all := wantBoundaries(d.Text)
	for _, at := range places {
		if !slices.Contains(all, at) {
			return false
		}
	}
	return true
}

func modelLogOk(d impl.Doc) bool {
	if !isText(d.Start) || len(d.Log) > 60 {
		return false
	}
	text := string(d.Start)
	for _, c := range d.Log {
		after, ok := modelDo(text, c.Edit)
		if !ok || c.Session < 1 || c.Session > 8 {
			return false
		}
		text = after
	}
	return text == string(d.Text)
}

func modelMembersOk(d impl.Doc) bool {
	if len(d.Members) > 8 {
		return false
	}
	for i, m := range d.Members {
		if m.Session < 1 || m.Session > 8 || i > 0 && m.Session <= d.Members[i-1].Session {
			return false
		}
		if !modelIsPlace(d, m.Sel.From, m.Sel.To) || !modelStack(m.Stack) {
			return false
		}
		for _, e := range slices.Concat(m.Stack.Undo, m.Stack.Redo) {
			if !modelFits(string(d.Text), e) {
				return false
			}
		}
	}
	return true
}

func modelDocLeasesOk(d impl.Doc) bool {
	if !modelLeases(d.Leases) {
		return false
	}
	for i, l := range d.Leases {
		if l.Till <= d.Clock || !modelIsPlace(d, l.I, l.J) {
			return false
		}
		for _, other := range d.Leases[:i] {
			if other.Session != l.Session && modelOverlap(other, l) {
				return false
			}
		}
	}
	return true
}

func modelDocOk(d impl.Doc) bool {
	return modelLogOk(d) && d.Clock >= 0 && d.Clock <= 1000 && modelMembersOk(d) && modelDocLeasesOk(d)
}

// modelEdits returns the edits of some commits, for a valid document.
func modelEdits(list []impl.Commit) []impl.Edit {
	var all []impl.Edit
	for _, c := range list {
		all = append(all, c.Edit)
	}
	return all
}

func modelTextAt(d impl.Doc, v int) string {
	text, _ := modelDoAll(string(d.Start), modelEdits(d.Log[:v]))
	return text
}

func modelMember(d impl.Doc, session int) int {
	for i, m := range d.Members {
		if m.Session == session {
			return i
		}
	}
	return -1
}

func modelPlan(d impl.Doc, r impl.Req, base int) (impl.Edit, int) {
	if !modelDocOk(d) || !modelReq(r) || r.Kind < 3 || r.Kind > 5 || base < 0 || base > len(d.Log) {
		return impl.Edit{}, 1
	}
	if modelMember(d, r.Session) < 0 {
		return impl.Edit{}, 2
	}
	e := edit(r.A, 0, string(r.Text))
	if r.Kind != 3 {
		e.Cut = r.B - r.A
	}
	if !modelFits(modelTextAt(d, base), e) {
		return impl.Edit{}, 5
	}
	for _, c := range d.Log[base:] {
		e, _ = modelMove(e, c.Edit)
	}
	return e, 0
}

// modelCommit lets turn put the inverse of e onto the stack of the session.
func modelCommit(d impl.Doc, session int, e impl.Edit, turn func(s impl.Stack, back impl.Edit) (impl.Stack, bool)) (impl.Doc, impl.Reply) {
	if modelBars(d.Leases, session, e, d.Clock) {
		return d, impl.Reply{Code: 6}
	}
	after, ok := modelDo(string(d.Text), e)
	if !ok || len(d.Log) >= 60 {
		return d, impl.Reply{Code: 4}
	}
	back := edit(e.At, len(e.Put), string(d.Text[e.At:e.At+e.Cut]))
	next := impl.Doc{Start: d.Start, Text: []byte(after), Log: append(slices.Clone(d.Log), impl.Commit{Session: session, Edit: e}), Clock: d.Clock, Leases: modelMovedLeases(d.Leases, e)}
	for _, m := range d.Members {
		s, _ := modelMovedStack(m.Stack, e)
		if m.Session == session {
			s, _ = turn(s, back)
		}
		next.Members = append(next.Members, impl.Member{Session: m.Session, Sel: modelSel(m.Sel, e, m.Session == session), Stack: s})
	}
	return next, impl.Reply{A: len(next.Log), B: e.At}
}

func modelDocDo(d impl.Doc, r impl.Req, base int) (impl.Doc, impl.Reply) {
	if !modelDocOk(d) {
		return impl.Doc{}, impl.Reply{Code: 1}
	}
	if !modelReq(r) || base < 0 || base > len(d.Log) {
		return d, impl.Reply{Code: 1}
	}
	at := modelMember(d, r.Session)
	if at < 0 && r.Kind != 1 {
		return d, impl.Reply{Code: 2}
	}
	switch r.Kind {
	case 1, 2, 11:
		return modelMembers(d, r, at)
	case 3, 4, 5:
		e, code := modelPlan(d, r, base)
		if code != 0 {
			return d, impl.Reply{Code: code}
		}
		return modelCommit(d, r.Session, e, modelPushed)
	case 12, 13, 14:
		list, code := modelLeasesAfter(d, r)
		d.Leases = list
		return d, impl.Reply{Code: code}
	case 15, 16:
		e, ok := modelTop(d.Members[at].Stack, r.Kind == 16)
		if !ok {
			return d, impl.Reply{Code: 7}
		}
		return modelCommit(d, r.Session, e, func(s impl.Stack, back impl.Edit) (impl.Stack, bool) {
			return modelTurned(s, r.Kind == 16, back)
		})
	}
	return d, modelAnswer(d, r)
}

// modelMembers is given the index of the member, or -1.
func modelMembers(d impl.Doc, r impl.Req, at int) (impl.Doc, impl.Reply) {
	was := d.Members
	d.Members = nil
	switch {
	case r.Kind == 1 && at >= 0:
		d.Members = was
		return d, impl.Reply{Code: 3}
	case r.Kind == 11 && !modelIsPlace(d, r.A, r.B):
		d.Members = was
		return d, impl.Reply{Code: 5}
	}
	for session := 1; session <= 8; session++ {
		i := modelMember(impl.Doc{Members: was}, session)
		switch {
		case session == r.Session && r.Kind == 1:
			d.Members = append(d.Members, impl.Member{Session: session})
		case session == r.Session && r.Kind == 11:
			d.Members = append(d.Members, impl.Member{Session: session, Sel: impl.Sel{From: r.A, To: r.B}, Stack: was[i].Stack})
		case session != r.Session && i >= 0:
			d.Members = append(d.Members, was[i])
		}
	}
	if r.Kind == 2 {
		d.Leases = modelThose(d.Leases, func(l impl.Lease) bool { return l.Session != r.Session })
	}
	if r.Kind == 1 {
		return d, impl.Reply{A: len(d.Log)}
	}
	return d, impl.Reply{}
}

func modelLeasesAfter(d impl.Doc, r impl.Req) ([]impl.Lease, int) {
	l := lease(r.A, r.B, r.Session, d.Clock+r.C)
	late := r.C == 0 || l.Till > 1000
	switch {
	case r.Kind == 12 && (!modelIsPlace(d, r.A, r.B) || r.B <= r.A):
		return d.Leases, 5
	case r.Kind != 14 && late:
		return d.Leases, 8
	case r.Kind == 12:
		list, code := modelTake(d.Leases, l, d.Clock)
		if code != 0 {
			return d.Leases, map[int]int{3: 6, 4: 4}[code]
		}
		return list, 0
	}
	n := modelFind(d.Leases, l)
	if n < 0 {
		return d.Leases, 7
	}
	list := slices.Clone(d.Leases)
	if r.Kind == 14 {
		return slices.Delete(list, n, n+1), 0
	}
	list[n].Till = l.Till
	return list, 0
}

func modelAnswer(d impl.Doc, r impl.Req) impl.Reply {
	text := string(d.Text)
	first, last := wantFinds(text, string(r.Text), r.A)
	line, col := wantLine(text, r.A)
	place := -1
	for _, at := range wantBoundaries(d.Text) {
		if i, j := wantLine(text, at); i == r.A && j == r.B {
			place = at
		}
	}
	switch {
	case r.Kind == 6 && modelIsPlace(d, r.A, r.B) && r.A <= r.B:
		return impl.Reply{Text: d.Text[r.A:r.B]}
	case r.Kind == 7 && first >= 0:
		return impl.Reply{A: first}
	case r.Kind == 8 && last >= 0:
		return impl.Reply{A: last}
	case r.Kind == 9 && line >= 0:
		return impl.Reply{A: line, B: col}
	case r.Kind == 10 && place >= 0:
		return impl.Reply{A: place}
	case r.Kind == 10 || (r.Kind == 7 || r.Kind == 8) && line >= 0:
		return impl.Reply{Code: 7}
	}
	return impl.Reply{Code: 5}
}

func modelTick(d impl.Doc, n int) (impl.Doc, bool) {
	if !modelDocOk(d) || n < 1 || n > 1000 {
		return impl.Doc{}, false
	}
	d.Clock = min(d.Clock+n, 1000)
	d.Leases = modelExpire(d.Leases, d.Clock)
	return d, true
}

func checkDocOk(t *testing.T, d impl.Doc, want bool) {
	t.Helper()
	if modelDocOk(d) != want {
		t.Fatalf("the model of %s is wrong", docText(d))
	}
	if got := impl.DocOk(d); got != want {
		t.Fatalf("DocOk of %s is %v", docText(d), got)
	}
}

func checkPlanTo(t *testing.T, d impl.Doc, r impl.Req, base int, want impl.Edit, wantCode int) {
	t.Helper()
	if got, code := impl.DocPlan(d, r, base); code != wantCode || !sameEdit(got, want) {
		t.Fatalf("DocPlan(%s; %s; %d) = %s, %d, want %s, %d", docText(d), reqText(r), base, editText(got), code, editText(want), wantCode)
	}
}

// checkDocDo compares DocDo and DocPlan with the model, and asserts promise 11 for the result.
func checkDocDo(t *testing.T, d impl.Doc, r impl.Req, base int) (impl.Doc, impl.Reply) {
	t.Helper()
	e, code := modelPlan(d, r, base)
	checkPlanTo(t, d, r, base, e, code)
	want, wantReply := modelDocDo(d, r, base)
	got, reply := impl.DocDo(d, r, base)
	if !sameReply(reply, wantReply) || !sameDoc(got, want) {
		t.Fatalf("DocDo(%s; %s; %d)\n= %s; %s,\nwant %s; %s", docText(d), reqText(r), base, docText(got), replyText(reply), docText(want), replyText(wantReply))
	}
	if !impl.ReplyOk(reply) {
		t.Fatalf("DocDo(%s; %s; %d) replies %s", docText(d), reqText(r), base, replyText(reply))
	}
	valid := modelDocOk(d)
	switch {
	case !valid && !sameDoc(got, impl.Doc{}):
		t.Fatalf("DocDo returns %s for a document that is not valid", docText(got))
	case valid && !impl.DocOk(got):
		t.Fatalf("DocDo(%s; %s; %d) leaves %s, which is not valid", docText(d), reqText(r), base, docText(got))
	case valid && reply.Code != impl.RepFine && !sameDoc(got, d):
		t.Fatalf("DocDo(%s; %s; %d) has the code %d, but leaves %s", docText(d), reqText(r), base, reply.Code, docText(got))
	}
	return got, reply
}

// checkDocDoTo asserts a result that is written out, so that neither the program nor the model is wrong.
func checkDocDoTo(t *testing.T, d impl.Doc, r impl.Req, base int, want impl.Doc, wantReply impl.Reply) {
	t.Helper()
	checkDocOk(t, d, true)
	if got, reply := checkDocDo(t, d, r, base); !sameReply(reply, wantReply) || !sameDoc(got, want) {
		t.Fatalf("DocDo(%s; %s; %d)\n= %s; %s,\nwant %s; %s", docText(d), reqText(r), base, docText(got), replyText(reply), docText(want), replyText(wantReply))
	}
}

// checkRejected asserts a code, and that nothing changes.
func checkRejected(t *testing.T, d impl.Doc, r impl.Req, base int, code int) {
	t.Helper()
	checkDocDoTo(t, d, r, base, d, impl.Reply{Code: code})
}

// mustDo returns the document after a request that succeeds.
func mustDo(t *testing.T, d impl.Doc, r impl.Req, base int) impl.Doc {
	t.Helper()
	next, reply := checkDocDo(t, d, r, base)
	if reply.Code != impl.RepFine {
		t.Fatalf("DocDo(%s; %s; %d) = %s", docText(d), reqText(r), base, replyText(reply))
	}
	return next
}

func checkTickTo(t *testing.T, d impl.Doc, n int, want impl.Doc, wantOk bool) {
	t.Helper()
	if got, ok := impl.DocTick(d, n); ok != wantOk || !sameDoc(got, want) {
		t.Fatalf("DocTick(%s; %d) = %s, %v, want %s, %v", docText(d), n, docText(got), ok, docText(want), wantOk)
	}
	// So that no expected document is wrong itself.
	if wantOk {
		checkDocOk(t, want, true)
	}
}

func checkTick(t *testing.T, d impl.Doc, n int) {
	t.Helper()
	want, ok := modelTick(d, n)
	checkTickTo(t, d, n, want, ok)
}

// checkVersion compares DocAt and DocSince with the model.
func checkVersion(t *testing.T, d impl.Doc, v int) {
	t.Helper()
	wantOk := modelDocOk(d) && v >= 0 && v <= len(d.Log)
	var want string
	var wantSince []impl.Edit
	if wantOk {
		want, wantSince = modelTextAt(d, v), modelEdits(d.Log[v:])
	}
	if got, ok := impl.DocAt(d, v); ok != wantOk || string(got) != want {
		t.Fatalf("DocAt(%s; %d) = %q, %v, want %q, %v", docText(d), v, got, ok, want, wantOk)
	}
	if got, ok := impl.DocSince(d, v); ok != wantOk || !slices.EqualFunc(got, wantSince, sameEdit) {
		t.Fatalf("DocSince(%s; %d) = %s, %v, want %s, %v", docText(d), v, editTexts(got), ok, editTexts(wantSince), wantOk)
	}
}

func checkMember(t *testing.T, d impl.Doc, session int) {
	t.Helper()
	at := modelMember(d, session)
	wantOk := modelDocOk(d) && at >= 0
	var want impl.Member
	if wantOk {
		want = d.Members[at]
	}
	if got, ok := impl.DocMember(d, session); ok != wantOk || !sameMember(got, want) {
		t.Fatalf("DocMember(%s; %d) = %s, %v, want %s, %v", docText(d), session, memberText(got), ok, memberText(want), wantOk)
	}
}

// extremes are the ends of int, and numbers that are outside of every range.
func extremes() []int {
	return []int{math.MinInt, math.MinInt + 1, -65536, -1001, -401, -61, -1, 1001, 65536, 1 << 32, math.MaxInt - 400, math.MaxInt - 1, math.MaxInt}
}

// checkDocument compares everything that only looks at the document, and its ticks, with the model.
func checkDocument(t *testing.T, d impl.Doc) {
	t.Helper()
	checkDocOk(t, d, modelDocOk(d))
	for _, n := range extremes() {
		checkVersion(t, d, n)
		checkMember(t, d, n)
		checkTick(t, d, n)
	}
	for v := -1; v <= len(d.Log)+1; v++ {
		checkVersion(t, d, v)
	}
	for session := range 10 {
		checkMember(t, d, session)
	}
	for _, n := range []int{-1, 0, 1, 2, 13, 500, 999, 1000, 1001} {
		checkTick(t, d, n)
	}
}

// checkInvalidDoc asserts what every function returns for a document that is not valid, for arguments that are.
func checkInvalidDoc(t *testing.T, what string, d impl.Doc) {
	t.Helper()
	if modelDocOk(d) {
		t.Fatalf("%s: the model of %s is wrong", what, docText(d))
	}
	if impl.DocOk(d) {
		t.Fatalf("%s: DocOk of %s", what, docText(d))
	}
	checkDocument(t, d)
	for kind := 1; kind <= 16; kind++ {
		for session := 1; session <= 2; session++ {
			r := leastReq(kind)
			r.Session = session
			checkPlanTo(t, d, r, 0, impl.Edit{}, impl.RepForm)
			if got, reply := impl.DocDo(d, r, 0); !sameDoc(got, impl.Doc{}) || !sameReply(reply, impl.Reply{Code: impl.RepForm}) {
				t.Fatalf("%s: DocDo returns %s; %s", what, docText(got), replyText(reply))
			}
		}
	}
}

// richDoc has something in every field, and a different number wherever it can.
func richDoc() impl.Doc {
	return impl.Doc{
		Start: []byte("abcdef\ngh\u00e9"),
		Text:  []byte("12abCdef\ngh\u00e9!"),
		Log:   commits(commit(2, 0, 0, "12"), commit(1, 4, 1, "C"), commit(4, 13, 0, "!")),
		Clock: 7,
		Members: members(
			member(1, 4, 5, stack(edits(edit(4, 1, "c")), nil)),
			member(2, 9, 2, stack(edits(edit(0, 2, "")), edits(edit(9, 0, "zz")))),
			member(4, 6, 6, stack(edits(edit(13, 1, "")), edits(edit(2, 2, "\u00e9"), edit(6, 0, "q"))))),
		Leases: leases(lease(2, 4, 1, 9), lease(6, 8, 2, 20), lease(9, 13, 4, 8)),
	}
}

func TestDocExample(t *testing.T) {
	d, ok := impl.DocNew([]byte("abcd"))
	if !ok || !sameDoc(d, docOf("abcd")) {
		t.Fatalf("DocNew %s, %v", docText(d), ok)
	}
	d = mustDo(t, d, req(impl.ReqOpen, 1, 0, 0, 0, ""), 0)
	d = mustDo(t, d, req(impl.ReqOpen, 2, 0, 0, 0, ""), 0)
	d = mustDo(t, d, req(impl.ReqInsert, 1, 2, 0, 0, "XY"), 0)
	d = mustDo(t, d, req(impl.ReqDelete, 2, 1, 3, 0, ""), 0)
	if string(d.Text) != "ad" {
		t.Fatalf("both edits leave %q", d.Text)
	}
	undone := mustDo(t, d, req(impl.ReqUndo, 2, 0, 0, 0, ""), 2)
	if string(undone.Text) != "abXYcd" {
		t.Fatalf("the undo leaves %q", undone.Text)
	}
	// An insertion at 4 of version 0 is one at the end.
	checkPlanTo(t, d, req(impl.ReqInsert, 1, 4, 0, 0, "z"), 0, edit(2, 0, "z"), impl.RepFine)
	checkPlanTo(t, undone, req(impl.ReqInsert, 1, 4, 0, 0, "z"), 0, edit(6, 0, "z"), impl.RepFine)
	redone := mustDo(t, undone, req(impl.ReqRedo, 2, 0, 0, 0, ""), 0)
	checkPlanTo(t, redone, req(impl.ReqInsert, 1, 4, 0, 0, "z"), 0, edit(2, 0, "z"), impl.RepFine)
	want := docOf("abcd")
	want.Text = []byte("ad")
	want.Log = commits(commit(1, 2, 0, "XY"), commit(2, 1, 4, ""))
	want.Members = members(member(1, 0, 0, stack(edits(edit(1, 0, "")), nil)), member(2, 0, 0, stack(edits(edit(1, 0, "bXYc")), nil)))
	if !sameDoc(d, want) {
		t.Errorf("the edits leave %s", docText(d))
	}
	if impl.MaxLog != 60 {
		t.Error(impl.MaxLog)
	}
}

func TestNewDocs(t *testing.T) {
	for _, text := range []string{"", "a", "a\u00e9\u20ac\U0001f642\n", "\x00", strings.Repeat("a", 399), strings.Repeat("\u00e9", 200), strings.Repeat("a", 400)} {
		d, ok := impl.DocNew([]byte(text))
		if !ok || !sameDoc(d, docOf(text)) {
			t.Errorf("DocNew(%q) = %s, %v", text, docText(d), ok)
		}
		checkDocOk(t, d, true)
		checkDocument(t, d)
	}
	for _, text := range wrongTexts() {
		if d, ok := impl.DocNew([]byte(text)); ok || !sameDoc(d, impl.Doc{}) {
			t.Errorf("DocNew(%q) = %s, %v", text, docText(d), ok)
		}
	}
	if d, ok := impl.DocNew(nil); !ok || !sameDoc(d, impl.Doc{}) {
		t.Errorf("DocNew of nothing is %s, %v", docText(d), ok)
	}
}

// Every field of a document may be nil, or empty.
func TestEmptyDocs(t *testing.T) {
	empty := impl.Doc{Start: []byte{}, Text: []byte{}, Log: []impl.Commit{}, Members: []impl.Member{}, Leases: []impl.Lease{}}
	for _, d := range []impl.Doc{{}, empty, {Start: []byte{}}, {Text: []byte{}}, {Log: []impl.Commit{}, Leases: []impl.Lease{}}, {Members: []impl.Member{}}} {
		checkDocOk(t, d, true)
		checkDocument(t, d)
		for kind := 2; kind <= 16; kind++ {
			checkRejected(t, d, leastReq(kind), 0, impl.RepWho)
			checkRejected(t, d, leastReq(kind), 1, impl.RepForm)
		}
		for session := 1; session <= 8; session++ {
			checkDocDoTo(t, d, req(impl.ReqOpen, session, 0, 0, 0, ""), 0, impl.Doc{Members: membersOf(session)}, impl.Reply{})
		}
	}
	d := empty
	d.Members = []impl.Member{{Session: 3, Stack: impl.Stack{Undo: []impl.Edit{}, Redo: []impl.Edit{}}}}
	checkDocument(t, d)
	for kind := 1; kind <= 16; kind++ {
		r := leastReq(kind)
		r.Session = 3
		checkDocDo(t, d, r, 0)
		r.Text = []byte{}
		checkDocDo(t, d, r, 0)
		r.Text = nil
		checkDocDo(t, d, r, 0)
	}
}

func TestMembersComeAndGo(t *testing.T) {
	d := richDoc()
	for session, place := range map[int]int{3: 2, 5: 3, 6: 3, 7: 3, 8: 3} {
		want := richDoc()
		want.Members = slices.Insert(want.Members, place, member(session, 0, 0, impl.Stack{}))
		checkDocDoTo(t, d, req(impl.ReqOpen, session, 0, 0, 0, ""), 3, want, reply(0, 3, 0, ""))
		checkDocDoTo(t, d, req(impl.ReqOpen, session, 0, 0, 0, ""), 0, want, reply(0, 3, 0, ""))
		checkRejected(t, want, req(impl.ReqOpen, session, 0, 0, 0, ""), 3, impl.RepTwice)
	}
	for i, session := range []int{1, 2, 4} {
		checkRejected(t, d, req(impl.ReqOpen, session, 0, 0, 0, ""), 3, impl.RepTwice)
		want := richDoc()
		want.Members = slices.Delete(want.Members, i, i+1)
		want.Leases = slices.Delete(want.Leases, i, i+1)
		checkDocDoTo(t, d, req(impl.ReqClose, session, 0, 0, 0, ""), 3, want, impl.Reply{})
		checkDocDoTo(t, d, req(impl.ReqClose, session, 0, 0, 0, ""), 0, want, impl.Reply{})
		checkRejected(t, want, req(impl.ReqClose, session, 0, 0, 0, ""), 3, impl.RepWho)
		// Who comes back has nothing of what was left behind.
		again := richDoc()
		again.Members[i] = member(session, 0, 0, impl.Stack{})
		again.Leases = want.Leases
		checkDocDoTo(t, want, req(impl.ReqOpen, session, 0, 0, 0, ""), 3, again, reply(0, 3, 0, ""))
	}
	// One that leaves takes all its leases along, and nobody else's.
	d.Leases = leases(lease(0, 1, 1, 9), lease(1, 2, 2, 9), lease(2, 3, 1, 8), lease(2, 4, 1, 1000), lease(5, 5, 1, 9), lease(5, 6, 4, 9))
	want := d
	want.Members = d.Members[1:]
	want.Leases = leases(lease(1, 2, 2, 9), lease(5, 6, 4, 9))
	checkDocDoTo(t, d, req(impl.ReqClose, 1, 0, 0, 0, ""), 1, want, impl.Reply{})
	// A lease may be left by a session that is no member.
	d.Members = d.Members[1:]
	checkDocOk(t, d, true)
	checkRejected(t, d, req(impl.ReqClose, 1, 0, 0, 0, ""), 1, impl.RepWho)
}

func TestEightMembers(t *testing.T) {
	d := docOf("ab")
	for n, session := range []int{5, 8, 1, 3, 2, 7, 4, 6} {
		d = mustDo(t, d, req(impl.ReqOpen, session, 0, 0, 0, ""), 0)
		if len(d.Members) != n+1 {
			t.Fatalf("after %d openings: %s", n+1, docText(d))
		}
	}
	if !sameDoc(d, impl.Doc{Start: []byte("ab"), Text: []byte("ab"), Members: membersOf(1, 2, 3, 4, 5, 6, 7, 8)}) {
		t.Fatalf("eight members: %s", docText(d))
	}
	checkDocument(t, d)
	for session := 1; session <= 8; session++ {
		checkRejected(t, d, req(impl.ReqOpen, session, 0, 0, 0, ""), 0, impl.RepTwice)
	}
	checkRejected(t, d, req(impl.ReqOpen, 9, 0, 0, 0, ""), 0, impl.RepForm)
	checkRejected(t, d, req(impl.ReqOpen, 0, 0, 0, 0, ""), 0, impl.RepForm)
	for session := 0; session <= 10; session++ {
		nine := d
		nine.Members = append(slices.Clone(d.Members), membersOf(session)...)
		checkInvalidDoc(t, "nine members", nine)
		nine.Members = append(membersOf(session), d.Members...)
		checkInvalidDoc(t, "nine members", nine)
	}
	for _, session := range []int{5, 8, 1, 3, 2, 7, 4, 6} {
		d = mustDo(t, d, req(impl.ReqClose, session, 0, 0, 0, ""), 0)
	}
	if !sameDoc(d, docOf("ab")) {
		t.Errorf("all have left: %s", docText(d))
	}
}

func TestCommitOfAnInsertion(t *testing.T) {
	d := richDoc()
	want := richDoc()
	want.Text = []byte("12abCdxyef\ngh\u00e9!")
	want.Log = append(want.Log, commit(2, 6, 0, "xy"))
	want.Members = members(
		member(1, 4, 5, stack(edits(edit(4, 1, "c")), nil)),
		member(2, 11, 2, stack(edits(edit(0, 2, ""), edit(6, 2, "")), nil)),
		member(4, 6, 6, stack(edits(edit(15, 1, "")), edits(edit(2, 2, "\u00e9"), edit(8, 0, "q")))))
	want.Leases = leases(lease(2, 4, 1, 9), lease(8, 10, 2, 20), lease(11, 15, 4, 8))
	checkDocDoTo(t, d, req(impl.ReqInsert, 2, 6, 0, 0, "xy"), 3, want, reply(0, 4, 6, ""))
	// The same place in the older texts.
	checkDocDoTo(t, d, req(impl.ReqInsert, 2, 6, 0, 0, "xy"), 2, want, reply(0, 4, 6, ""))
	checkDocDoTo(t, d, req(impl.ReqInsert, 2, 6, 0, 0, "xy"), 1, want, reply(0, 4, 6, ""))
	checkDocDoTo(t, d, req(impl.ReqInsert, 2, 4, 0, 0, "xy"), 0, want, reply(0, 4, 6, ""))
	// The session that inserts at its own selection is moved behind what it inserts.
	want.Log[3] = commit(4, 6, 0, "xy")
	want.Members[1] = member(2, 11, 2, stack(edits(edit(0, 2, "")), edits(edit(11, 0, "zz"))))
	want.Members[2] = member(4, 8, 8, stack(edits(edit(15, 1, ""), edit(6, 2, "")), nil))
	checkDocDoTo(t, d, req(impl.ReqInsert, 4, 6, 0, 0, "xy"), 3, want, reply(0, 4, 6, ""))
	// An insertion of nothing is a commit, too.
	want = richDoc()
	want.Log = append(want.Log, commit(1, 14, 0, ""))
	want.Members[0].Stack.Undo = edits(edit(4, 1, "c"), edit(14, 0, ""))
	checkDocDoTo(t, d, req(impl.ReqInsert, 1, 14, 0, 0, ""), 3, want, reply(0, 4, 14, ""))
}

func TestCommitOfADeletion(t *testing.T) {
	d := richDoc()
	want := richDoc()
	want.Text = []byte("12adef\ngh\u00e9!")
	want.Log = append(want.Log, commit(1, 3, 2, ""))
	want.Members = members(
		member(1, 3, 3, stack(edits(edit(3, 0, "c"), edit(3, 0, "bC")), nil)),
		member(2, 7, 2, stack(edits(edit(0, 2, "")), edits(edit(7, 0, "zz")))),
		member(4, 4, 4, stack(edits(edit(11, 1, "")), edits(edit(2, 1, "\u00e9"), edit(4, 0, "q")))))
	want.Leases = leases(lease(2, 3, 1, 9), lease(4, 6, 2, 20), lease(7, 11, 4, 8))
	checkDocDoTo(t, d, req(impl.ReqDelete, 1, 3, 5, 0, ""), 3, want, reply(0, 4, 3, ""))
	checkDocDoTo(t, d, req(impl.ReqDelete, 1, 3, 5, 0, ""), 2, want, reply(0, 4, 3, ""))
	// A deletion of nothing.
	want = richDoc()
	want.Log = append(want.Log, commit(1, 5, 0, ""))
	want.Members[0].Stack.Undo = edits(edit(4, 1, "c"), edit(5, 0, ""))
	checkDocDoTo(t, d, req(impl.ReqDelete, 1, 5, 5, 0, ""), 3, want, reply(0, 4, 5, ""))
}

func TestCommitOfAReplacement(t *testing.T) {
	d := richDoc()
	want := richDoc()
	want.Text = []byte("12abCdef\nghe\n!")
	want.Log = append(want.Log, commit(4, 11, 2, "e\n"))
	want.Members[2].Stack = stack(edits(edit(13, 1, ""), edit(11, 2, "\u00e9")), nil)
	checkDocDoTo(t, d, req(impl.ReqReplace, 4, 11, 13, 0, "e\n"), 3, want, reply(0, 4, 11, ""))
	checkDocDoTo(t, d, req(impl.ReqReplace, 4, 11, 13, 0, "e\n"), 2, want, reply(0, 4, 11, ""))
	checkDocDoTo(t, d, req(impl.ReqReplace, 4, 9, 11, 0, "e\n"), 0, want, reply(0, 4, 11, ""))
	// Of nothing, by something longer, and of something by nothing.
	want = richDoc()
	want.Text = []byte("\u20ac12abCdef\ngh\u00e9!")
	want.Log = append(want.Log, commit(1, 0, 0, "\u20ac"))
	want.Members = members(
		member(1, 7, 8, stack(edits(edit(7, 1, "c"), edit(0, 3, "")), nil)),
		member(2, 12, 5, stack(edits(edit(3, 2, "")), edits(edit(12, 0, "zz")))),
		member(4, 9, 9, stack(edits(edit(16, 1, "")), edits(edit(5, 2, "\u00e9"), edit(9, 0, "q")))))
	want.Leases = leases(lease(5, 7, 1, 9), lease(9, 11, 2, 20), lease(12, 16, 4, 8))
	checkDocDoTo(t, d, req(impl.ReqReplace, 1, 0, 0, 0, "\u20ac"), 3, want, reply(0, 4, 0, ""))
	want = richDoc()
	want.Text = []byte("2abCdef\ngh\u00e9!")
	want.Log = append(want.Log, commit(1, 0, 1, ""))
	want.Members = members(
		member(1, 3, 4, stack(edits(edit(3, 1, "c"), edit(0, 0, "1")), nil)),
		member(2, 8, 1, stack(edits(edit(0, 1, "")), edits(edit(8, 0, "zz")))),
		member(4, 5, 5, stack(edits(edit(12, 1, "")), edits(edit(1, 2, "\u00e9"), edit(5, 0, "q")))))
	want.Leases = leases(lease(1, 3, 1, 9), lease(5, 7, 2, 20), lease(8, 12, 4, 8))
	checkDocDoTo(t, d, req(impl.ReqReplace, 1, 0, 1, 0, ""), 3, want, reply(0, 4, 0, ""))
}

func TestCommitsOfUndoAndRedo(t *testing.T) {
	d := richDoc()
	want := richDoc()
	want.Text = []byte("12abcdef\ngh\u00e9!")
	want.Log = append(want.Log, commit(1, 4, 1, "c"))
	want.Members[0] = member(1, 5, 5, stack(nil, edits(edit(4, 1, "C"))))
	for base := range 4 {
		checkDocDoTo(t, d, req(impl.ReqUndo, 1, 0, 0, 0, ""), base, want, reply(0, 4, 4, ""))
		checkRejected(t, d, req(impl.ReqRedo, 1, 0, 0, 0, ""), base, impl.RepNone)
	}
	checkRejected(t, want, req(impl.ReqUndo, 1, 0, 0, 0, ""), 4, impl.RepNone)
	want = richDoc()
	want.Text = []byte("12abCdef\nzzgh\u00e9!")
	want.Log = append(want.Log, commit(2, 9, 0, "zz"))
	want.Members[1] = member(2, 11, 2, stack(edits(edit(0, 2, ""), edit(9, 2, "")), nil))
	want.Members[2].Stack.Undo = edits(edit(15, 1, ""))
	want.Leases = leases(lease(2, 4, 1, 9), lease(6, 8, 2, 20), lease(11, 15, 4, 8))
	for base := range 4 {
		checkDocDoTo(t, d, req(impl.ReqRedo, 2, 0, 0, 0, ""), base, want, reply(0, 4, 9, ""))
	}
	checkRejected(t, want, req(impl.ReqRedo, 2, 0, 0, 0, ""), 4, impl.RepNone)
	// The last edit is turned, and what is below it stays.
	want = richDoc()
	want.Text = []byte("12abCdqef\ngh\u00e9!")
	want.Log = append(want.Log, commit(4, 6, 0, "q"))
	want.Members[1] = member(2, 10, 2, stack(edits(edit(0, 2, "")), edits(edit(10, 0, "zz"))))
	want.Members[2] = member(4, 7, 7, stack(edits(edit(14, 1, ""), edit(6, 1, "")), edits(edit(2, 2, "\u00e9"))))
	want.Leases = leases(lease(2, 4, 1, 9), lease(7, 9, 2, 20), lease(10, 14, 4, 8))
	checkDocDoTo(t, d, req(impl.ReqRedo, 4, 0, 0, 0, ""), 3, want, reply(0, 4, 6, ""))
	want = richDoc()
	want.Text = []byte("12abCdef\ngh\u00e9")
	want.Log = append(want.Log, commit(4, 13, 1, ""))
	want.Members[2].Stack = stack(nil, edits(edit(2, 2, "\u00e9"), edit(6, 0, "q"), edit(13, 0, "!")))
	checkDocDoTo(t, d, req(impl.ReqUndo, 4, 0, 0, 0, ""), 3, want, reply(0, 4, 13, ""))
	want = richDoc()
	want.Text = []byte("abCdef\ngh\u00e9!")
	want.Log = append(want.Log, commit(2, 0, 2, ""))
	want.Members = members(
		member(1, 2, 3, stack(edits(edit(2, 1, "c")), nil)),
		member(2, 7, 0, stack(nil, edits(edit(7, 0, "zz"), edit(0, 0, "12")))),
		member(4, 4, 4, stack(edits(edit(11, 1, "")), edits(edit(0, 2, "\u00e9"), edit(4, 0, "q")))))
	want.Leases = leases(lease(0, 2, 1, 9), lease(4, 6, 2, 20), lease(7, 11, 4, 8))
	checkDocDoTo(t, d, req(impl.ReqUndo, 2, 0, 0, 0, ""), 3, want, reply(0, 4, 0, ""))
}

func TestQueries(t *testing.T) {
	d := richDoc()
	for _, x := range []struct {
		r    impl.Req
		want impl.Reply
	}{
		{req(impl.ReqRead, 1, 9, 13, 0, ""), reply(0, 0, 0, "gh\u00e9")},
		{req(impl.ReqRead, 2, 0, 14, 0, ""), reply(0, 0, 0, "12abCdef\ngh\u00e9!")},
		{req(impl.ReqRead, 4, 13, 13, 0, ""), reply(0, 0, 0, "")},
		{req(impl.ReqRead, 4, 14, 14, 0, ""), reply(0, 0, 0, "")},
		{req(impl.ReqRead, 4, 13, 11, 0, ""), reply(impl.RepRange, 0, 0, "")},
		{req(impl.ReqRead, 4, 12, 13, 0, ""), reply(impl.RepRange, 0, 0, "")},
		{req(impl.ReqRead, 4, 11, 12, 0, ""), reply(impl.RepRange, 0, 0, "")},
		{req(impl.ReqRead, 4, 14, 15, 0, ""), reply(impl.RepRange, 0, 0, "")},
		{req(impl.ReqRead, 4, 15, 15, 0, ""), reply(impl.RepRange, 0, 0, "")},
		{req(impl.ReqFind, 1, 0, 0, 0, "h"), reply(0, 10, 0, "")},
		{req(impl.ReqFind, 1, 10, 0, 0, "h"), reply(0, 10, 0, "")},
		{req(impl.ReqFind, 1, 11, 0, 0, "h"), reply(impl.RepNone, 0, 0, "")},
		{req(impl.ReqFind, 1, 12, 0, 0, "h"), reply(impl.RepRange, 0, 0, "")},
		{req(impl.ReqFind, 1, 15, 0, 0, "h"), reply(impl.RepRange, 0, 0, "")},
		{req(impl.ReqFind, 1, 0, 0, 0, "12"), reply(0, 0, 0, "")},
		{req(impl.ReqBack, 1, 14, 0, 0, "h"), reply(0, 10, 0, "")},
		{req(impl.ReqBack, 1, 10, 0, 0, "h"), reply(0, 10, 0, "")},
		{req(impl.ReqBack, 1, 9, 0, 0, "h"), reply(impl.RepNone, 0, 0, "")},
		{req(impl.ReqBack, 1, 12, 0, 0, "h"), reply(impl.RepRange, 0, 0, "")},
		{req(impl.ReqBack, 1, 65535, 0, 0, "h"), reply(impl.RepRange, 0, 0, "")},
		{req(impl.ReqLine, 2, 13, 0, 0, ""), reply(0, 1, 3, "")},
		{req(impl.ReqLine, 2, 8, 0, 0, ""), reply(0, 0, 8, "")},
		{req(impl.ReqLine, 2, 9, 0, 0, ""), reply(0, 1, 0, "")},
		{req(impl.ReqLine, 2, 0, 0, 0, ""), reply(0, 0, 0, "")},
		{req(impl.ReqLine, 2, 12, 0, 0, ""), reply(impl.RepRange, 0, 0, "")},
		{req(impl.ReqLine, 2, 15, 0, 0, ""), reply(impl.RepRange, 0, 0, "")},
		{req(impl.ReqPlace, 2, 1, 3, 0, ""), reply(0, 13, 0, "")},
		{req(impl.ReqPlace, 2, 0, 8, 0, ""), reply(0, 8, 0, "")},
		{req(impl.ReqPlace, 2, 0, 0, 0, ""), reply(0, 0, 0, "")},
		{req(impl.ReqPlace, 2, 0, 9, 0, ""), reply(impl.RepNone, 0, 0, "")},
		{req(impl.ReqPlace, 2, 2, 0, 0, ""), reply(impl.RepNone, 0, 0, "")},
	} {
		for base := range 4 {
			checkDocDoTo(t, d, x.r, base, d, x.want)
		}
	}
}

// Whatever the text, a query returns what the rope returns.
func TestQueriesReturnWhatTheRopeReturns(t *testing.T) {
	for _, text := range []string{"", "\n", "ab\nab\u00e9\nb", "a\u00e9\u20ac\U0001f642", strings.Repeat("ab\u00e9\n", 8)} {
		d := docOf(text)
		d.Members = membersOf(1)
		r, _ := impl.RopeOf([]byte(text))
		for i := range len(text) + 3 {
			for j := range len(text) + 3 {
				slice, ok := impl.RopeSlice(r, i, j)
				checkAnswer(t, d, req(impl.ReqRead, 1, i, j, 0, ""), ok, reply(0, 0, 0, string(slice)), impl.RepRange)
				place := impl.RopePlace(r, i, j)
				checkAnswer(t, d, req(impl.ReqPlace, 1, i, j, 0, ""), place >= 0, reply(0, place, 0, ""), impl.RepNone)
			}
			line, col := impl.RopeLine(r, i)
			checkAnswer(t, d, req(impl.ReqLine, 1, i, 0, 0, ""), line >= 0, reply(0, line, col, ""), impl.RepRange)
			code := impl.RepRange
			if impl.CutOk([]byte(text), i) {
				code = impl.RepNone
			}
			for _, p := range []string{"a", "b", "\n", "ab", "\u00e9", "\u20ac\U0001f642", "zz", "b\u00e9\na", text} {
				if p == "" {
					continue
				}
				at := impl.RopeFind(r, []byte(p), i)
				checkAnswer(t, d, req(impl.ReqFind, 1, i, 0, 0, p), at >= 0, reply(0, at, 0, ""), code)
				at = impl.RopeFindBack(r, []byte(p), i)
				checkAnswer(t, d, req(impl.ReqBack, 1, i, 0, 0, p), at >= 0, reply(0, at, 0, ""), code)
			}
		}
	}
}

// checkAnswer asserts the reply to a query, or the code if there is none.
func checkAnswer(t *testing.T, d impl.Doc, r impl.Req, ok bool, want impl.Reply, code int) {
	t.Helper()
	if !ok {
		want = impl.Reply{Code: code}
	}
	got, told := impl.DocDo(d, r, 0)
	if !sameReply(told, want) || !sameDoc(got, d) {
		t.Fatalf("DocDo(%s; %s) = %s; %s, want %s", docText(d), reqText(r), docText(got), replyText(told), replyText(want))
	}
}

func TestSelecting(t *testing.T) {
	d := richDoc()
	for _, x := range [][2]int{{0, 0}, {0, 14}, {14, 0}, {14, 14}, {11, 13}, {13, 11}, {5, 5}} {
		for base := range 4 {
			for i, session := range []int{1, 2, 4} {
				want := richDoc()
				want.Members[i].Sel = impl.Sel{From: x[0], To: x[1]}
				checkDocDoTo(t, d, req(impl.ReqSelect, session, x[0], x[1], 0, ""), base, want, impl.Reply{})
			}
		}
	}
	for _, x := range [][2]int{{12, 0}, {0, 12}, {12, 12}, {15, 0}, {0, 15}, {15, 15}, {65535, 65535}, {13, 65535}, {65535, 0}} {
		checkRejected(t, d, req(impl.ReqSelect, 1, x[0], x[1], 0, ""), 3, impl.RepRange)
	}
}

func TestLocking(t *testing.T) {
	d := richDoc()
	for _, x := range []struct {
		session, i, j, c int
		want             []impl.Lease
	}{
		{1, 4, 6, 5, leases(lease(2, 4, 1, 9), lease(4, 6, 1, 12), lease(6, 8, 2, 20), lease(9, 13, 4, 8))},
		{2, 4, 6, 1, leases(lease(2, 4, 1, 9), lease(4, 6, 2, 8), lease(6, 8, 2, 20), lease(9, 13, 4, 8))},
		{2, 4, 9, 993, leases(lease(2, 4, 1, 9), lease(4, 9, 2, 1000), lease(6, 8, 2, 20), lease(9, 13, 4, 8))},
		{1, 0, 6, 992, leases(lease(0, 6, 1, 999), lease(2, 4, 1, 9), lease(6, 8, 2, 20), lease(9, 13, 4, 8))},
		{4, 8, 14, 2, leases(lease(2, 4, 1, 9), lease(6, 8, 2, 20), lease(8, 14, 4, 9), lease(9, 13, 4, 8))},
		{1, 13, 14, 2, leases(lease(2, 4, 1, 9), lease(6, 8, 2, 20), lease(9, 13, 4, 8), lease(13, 14, 1, 9))},
	} {
		want := richDoc()
		want.Leases = x.want
		checkDocDoTo(t, d, req(impl.ReqLock, x.session, x.i, x.j, x.c, ""), 3, want, impl.Reply{})
		checkDocDoTo(t, d, req(impl.ReqLock, x.session, x.i, x.j, x.c, ""), 0, want, impl.Reply{})
	}
	for _, x := range []struct{ session, i, j, c, code int }{
		{1, 4, 4, 5, impl.RepRange}, {1, 6, 4, 5, impl.RepRange}, {1, 12, 13, 5, impl.RepRange}, {1, 13, 15, 5, impl.RepRange}, {1, 0, 12, 5, impl.RepRange}, {1, 14, 14, 5, impl.RepRange}, {1, 15, 16, 5, impl.RepRange},
		{1, 4, 6, 0, impl.RepClock}, {1, 4, 6, 994, impl.RepClock}, {1, 4, 6, 65535, impl.RepClock},
		{1, 4, 7, 5, impl.RepLocked}, {1, 7, 9, 5, impl.RepLocked}, {2, 0, 3, 5, impl.RepLocked}, {2, 0, 14, 5, impl.RepLocked}, {2, 3, 4, 5, impl.RepLocked}, {2, 2, 4, 5, impl.RepLocked}, {4, 7, 9, 5, impl.RepLocked}, {1, 11, 13, 5, impl.RepLocked},
		{1, 2, 4, 5, impl.RepFull}, {2, 6, 8, 5, impl.RepFull}, {4, 9, 13, 5, impl.RepFull},
	} {
		checkRejected(t, d, req(impl.ReqLock, x.session, x.i, x.j, x.c, ""), 3, x.code)
	}
}

func TestRenewingAndUnlocking(t *testing.T) {
	d := richDoc()
	for i, x := range []struct{ session, i, j int }{{1, 2, 4}, {2, 6, 8}, {4, 9, 13}} {
		for _, c := range []int{1, 2, 13, 992, 993} {
			want := richDoc()
			want.Leases[i].Till = 7 + c
			checkDocDoTo(t, d, req(impl.ReqRenew, x.session, x.i, x.j, c, ""), 3, want, impl.Reply{})
			checkDocDoTo(t, d, req(impl.ReqRenew, x.session, x.i, x.j, c, ""), 0, want, impl.Reply{})
		}
		for _, c := range []int{0, 994, 65535} {
			checkRejected(t, d, req(impl.ReqRenew, x.session, x.i, x.j, c, ""), 3, impl.RepClock)
		}
		want := richDoc()
		want.Leases = slices.Delete(want.Leases, i, i+1)
		checkDocDoTo(t, d, req(impl.ReqUnlock, x.session, x.i, x.j, 0, ""), 3, want, impl.Reply{})
		checkDocDoTo(t, d, req(impl.ReqUnlock, x.session, x.i, x.j, 0, ""), 0, want, impl.Reply{})
		checkRejected(t, want, req(impl.ReqUnlock, x.session, x.i, x.j, 0, ""), 3, impl.RepNone)
		checkRejected(t, want, req(impl.ReqRenew, x.session, x.i, x.j, 5, ""), 3, impl.RepNone)
	}
	// None of these is a lease of that session: neither another session's, nor one that differs in one end, nor what can be none.
	for _, x := range [][3]int{{1, 6, 8}, {2, 2, 4}, {4, 2, 4}, {1, 2, 3}, {1, 1, 4}, {1, 2, 2}, {1, 4, 2}, {1, 12, 13}, {1, 13, 12}, {1, 15, 15}, {1, 401, 402}, {1, 65535, 65535}, {1, 0, 65535}, {1, 65535, 0}} {
		checkRejected(t, d, req(impl.ReqRenew, x[0], x[1], x[2], 5, ""), 3, impl.RepNone)
		checkRejected(t, d, req(impl.ReqUnlock, x[0], x[1], x[2], 0, ""), 3, impl.RepNone)
		checkRejected(t, d, req(impl.ReqRenew, x[0], x[1], x[2], 0, ""), 3, impl.RepClock)
		checkRejected(t, d, req(impl.ReqRenew, x[0], x[1], x[2], 994, ""), 3, impl.RepClock)
	}
	// An empty lease cannot be taken, but renewed and removed, and it is gone after a commit.
	d.Leases = leases(lease(3, 3, 2, 9), lease(9, 13, 4, 8))
	want := d
	want.Leases = leases(lease(3, 3, 2, 10), lease(9, 13, 4, 8))
	checkDocDoTo(t, d, req(impl.ReqRenew, 2, 3, 3, 3, ""), 3, want, impl.Reply{})
	want.Leases = leases(lease(9, 13, 4, 8))
	checkDocDoTo(t, d, req(impl.ReqUnlock, 2, 3, 3, 0, ""), 3, want, impl.Reply{})
	want.Log = append(slices.Clone(d.Log), commit(1, 14, 0, ""))
	want.Members = slices.Clone(d.Members)
	want.Members[0].Stack = stack(edits(edit(4, 1, "c"), edit(14, 0, "")), nil)
	checkDocDoTo(t, d, req(impl.ReqInsert, 1, 14, 0, 0, ""), 3, want, reply(0, 4, 14, ""))
}

func TestTwelveLeases(t *testing.T) {
	d := docOf(strings.Repeat("abc", 20))
	d.Members = membersOf(1, 2, 3, 4)
	d.Leases = rowOfLeases(11, always(9))
	r := req(impl.ReqLock, 4, 50, 51, 5, "")
	full := mustDo(t, d, r, 0)
	if len(full.Leases) != 12 || full.Leases[11] != lease(50, 51, 4, 5) {
		t.Fatalf("twelve leases: %v", full.Leases)
	}
	checkDocument(t, full)
	checkRejected(t, full, req(impl.ReqLock, 4, 51, 52, 5, ""), 0, impl.RepFull)
	checkRejected(t, full, r, 0, impl.RepFull)
	// An overlap with a lease of another session is seen first.
	checkRejected(t, full, req(impl.ReqLock, 1, 49, 51, 5, ""), 0, impl.RepLocked)
	checkDocDo(t, full, req(impl.ReqRenew, 4, 50, 51, 50, ""), 0)
	mustDo(t, mustDo(t, full, req(impl.ReqUnlock, 1, 0, 3, 0, ""), 0), req(impl.ReqLock, 4, 51, 52, 5, ""), 0)
	// Time makes room, too.
	later, _ := impl.DocTick(full, 5)
	mustDo(t, later, req(impl.ReqLock, 4, 51, 52, 5, ""), 0)
	full.Leases = append(full.Leases, lease(51, 52, 4, 5))
	checkInvalidDoc(t, "thirteen leases", full)
}

// scene is a call of DocDo.
type scene struct {
	d    impl.Doc
	r    impl.Req
	base int
}

// fault makes a call fail with a code, whatever other faults it has.
type fault struct {
	name string
	code int
	make func(s *scene)
}

func noCommits(n int) []impl.Commit {
	var list []impl.Commit
	for k := range n {
		list = append(list, commit(k%8+1, 0, 0, ""))
	}
	return list
}

// sceneOf is a request of session 1 that succeeds.
func sceneOf(kind int) scene {
	d := docOf("a\u00e9" + strings.Repeat("b", 347))
	d.Log = noCommits(3)
	d.Clock = 7
	d.Members = membersOf(1, 2, 3)
	d.Members[0].Stack = stack(edits(edit(10, 1, "xy")), edits(edit(10, 1, "xy")))
	d.Leases = leases(lease(10, 20, 1, 50))
	r := req(kind, 1, 0, 0, 0, "")
	switch kind {
	case impl.ReqOpen:
		d.Members = membersOf(2, 3)
	case impl.ReqInsert:
		r = req(kind, 1, 10, 0, 0, "xy")
	case impl.ReqReplace:
		r = req(kind, 1, 10, 11, 0, "xy")
	case impl.ReqFind, impl.ReqBack:
		r = req(kind, 1, 10, 0, 0, "b")
	case impl.ReqLine:
		r = req(kind, 1, 10, 0, 0, "")
	case impl.ReqPlace:
		r = req(kind, 1, 0, 10, 0, "")
	case impl.ReqDelete, impl.ReqRead, impl.ReqSelect, impl.ReqUnlock:
		r = req(kind, 1, 10, 20, 0, "")
	case impl.ReqLock:
		d.Leases = nil
		r = req(kind, 1, 10, 20, 5, "")
	case impl.ReqRenew:
		r = req(kind, 1, 10, 20, 5, "")
	}
	return scene{d, r, 1}
}

// commonFaults are those of all kinds, in the order of the document.
func commonFaults(kind int) []fault {
	list := []fault{
		{"the document is not valid", impl.RepForm, func(s *scene) { s.d.Clock = -1 }},
		{"the request is not valid", impl.RepForm, func(s *scene) {
			// A field that the kind does not use.
			if strings.Contains(usedFields()[kind], "C") {
				s.r.Text = []byte("x")
			} else {
				s.r.C = 1
			}
		}},
		{"the base is below all versions", impl.RepForm, func(s *scene) { s.base = -1 }},
		{"the base is above all versions", impl.RepForm, func(s *scene) { s.base = 61 }},
	}
	if kind == impl.ReqOpen {
		return append(list, fault{"there is such a member", impl.RepTwice, func(s *scene) { s.d.Members = membersOf(1, 2, 3) }})
	}
	return append(list, fault{"there is no member", impl.RepWho, func(s *scene) { s.d.Members = membersOf(2, 3) }})
}

// commitFaults are those of all kinds that commit an edit. A deletion never makes the text longer.
func commitFaults(kind int) []fault {
	list := []fault{
		{"another session has a lease", impl.RepLocked, func(s *scene) { s.d.Leases = leases(lease(0, 30, 3, 100)) }},
		{"the text is full", impl.RepFull, func(s *scene) {
			s.d.Start = append(s.d.Start, strings.Repeat("z", 50)...)
			s.d.Text = append(s.d.Text, strings.Repeat("z", 50)...)
		}},
		{"the log is full", impl.RepFull, func(s *scene) { s.d.Log = noCommits(60) }},
	}
	if kind == impl.ReqDelete {
		list = slices.Delete(list, 1, 2)
	}
	return list
}

// faultsOf are the faults of a kind, in the order of the document.
func faultsOf(kind int) []fault {
	outside := fault{"no boundary", impl.RepRange, func(s *scene) { s.r.A = 2 }}
	late := []fault{
		{"for no time", impl.RepClock, func(s *scene) { s.r.C = 0 }},
		{"for too long", impl.RepClock, func(s *scene) { s.r.C = 994 }},
	}
	list := commonFaults(kind)
	switch kind {
	case impl.ReqInsert, impl.ReqDelete, impl.ReqReplace:
		return append(append(list, outside), commitFaults(kind)...)
	case impl.ReqUndo, impl.ReqRedo:
		nothing := fault{"nothing to turn", impl.RepNone, func(s *scene) {
			if len(s.d.Members) == 3 {
				s.d.Members[0].Stack = stack(nil, edits(edit(10, 1, "xy")))
			}
		}}
		if kind == impl.ReqRedo {
			nothing.make = func(s *scene) {
				if len(s.d.Members) == 3 {
					s.d.Members[0].Stack = stack(edits(edit(10, 1, "xy")), nil)
				}
			}
		}
		return append(append(list, nothing), commitFaults(kind)...)
	case impl.ReqRead, impl.ReqSelect:
		return append(list, outside, fault{"the end is no boundary", impl.RepRange, func(s *scene) { s.r.B = 351 }})
	case impl.ReqLine:
		return append(list, outside)
	case impl.ReqFind, impl.ReqBack:
		return append(list, outside, fault{"it is not there", impl.RepNone, func(s *scene) { s.r.Text = []byte("Q") }})
	case impl.ReqPlace:
		return append(list, fault{"no such place", impl.RepNone, func(s *scene) { s.r.A = 1 }})
	case impl.ReqUnlock:
		return append(list, fault{"no such lease", impl.RepNone, func(s *scene) { s.d.Leases = nil }})
	case impl.ReqRenew:
		return append(append(list, late...), fault{"no such lease", impl.RepNone, func(s *scene) { s.d.Leases = nil }})
	case impl.ReqLock:
		return append(append(append(list, outside, fault{"an empty span", impl.RepRange, func(s *scene) { s.r.B = s.r.A }}), late...),
			fault{"another session has a lease", impl.RepLocked, func(s *scene) { s.d.Leases = leases(lease(0, 30, 3, 100)) }},
			fault{"there are too many leases", impl.RepFull, func(s *scene) {
				for k := len(s.d.Leases); k < 12; k++ {
					s.d.Leases = append(s.d.Leases, lease(100+k, 101+k, 1, 100))
				}
			}})
	}
	return list
}

// Whatever faults a call has, the one that the document lists first is returned.
func TestFirstOfSeveralErrors(t *testing.T) {
	t.Parallel()
	for kind := 1; kind <= 16; kind++ {
		faults := faultsOf(kind)
		for chosen := range 1 << len(faults) {
			s := sceneOf(kind)
			want := impl.RepFine
			name := ""
			for i, f := range faults {
				if chosen>>i&1 == 0 {
					continue
				}
				f.make(&s)
				if want == impl.RepFine {
					want = f.code
				}
				name += "; " + f.name
			}
			next, told := checkDocDo(t, s.d, s.r, s.base)
			if told.Code != want {
				t.Fatalf("kind %d%s: the code is %d, not %d", kind, name, told.Code, want)
			}
			wantDoc := s.d
			if chosen&1 == 1 {
				wantDoc = impl.Doc{}
			}
			if want != impl.RepFine && (!sameDoc(next, wantDoc) || !sameReply(told, impl.Reply{Code: want})) {
				t.Fatalf("kind %d%s: the document is %s and the reply %s", kind, name, docText(next), replyText(told))
			}
			_, code := impl.DocPlan(s.d, s.r, s.base)
			if plans := kind >= 3 && kind <= 5; !plans && code != impl.RepForm || plans && (code == want) == (want == impl.RepLocked || want == impl.RepFull) {
				t.Fatalf("kind %d%s: the code of DocPlan is %d", kind, name, code)
			}
		}
	}
}

// wrongReqs are not valid in one field each.
func wrongReqs(kind int) []impl.Req {
	var list []impl.Req
	for _, n := range append(wrongWords(), smallWrongs()...) {
		r := leastReq(kind)
		r.Kind = n
		if n >= 1 && n <= 16 {
			continue
		}
		list = append(list, r)
	}
	for _, n := range append(wrongWords(), 0, 9, 10) {
		r := leastReq(kind)
		r.Session = n
		if n < 1 || n > 8 {
			list = append(list, r)
		}
	}
	for _, field := range []string{"A", "B", "C"} {
		for _, n := range append(wrongWords(), 1, 2, 65535) {
			r := withNumber(leastReq(kind), field, n)
			if !modelReq(r) {
				list = append(list, r)
			}
		}
	}
	for _, text := range append(wrongTexts(), "", "x", strings.Repeat("a", 101), strings.Repeat("\u00e9", 51)) {
		r := leastReq(kind)
		r.Text = []byte(text)
		if !modelReq(r) {
			list = append(list, r)
		}
	}
	return list
}

func TestRequestsThatAreNotValid(t *testing.T) {
	d := richDoc()
	for kind := -1; kind <= 18; kind++ {
		for _, r := range wrongReqs(kind) {
			for _, base := range []int{-1, 0, 3, 4} {
				next, told := impl.DocDo(d, r, base)
				if !sameReply(told, impl.Reply{Code: impl.RepForm}) || !sameDoc(next, d) {
					t.Fatalf("DocDo of %s = %s; %s", reqText(r), docText(next), replyText(told))
				}
				checkPlanTo(t, d, r, base, impl.Edit{}, impl.RepForm)
			}
		}
	}
	for _, n := range append(extremes(), 0, 17, 18, 256, 257) {
		for session := 1; session <= 3; session++ {
			checkRejected(t, d, req(n, session, 0, 0, 0, ""), 0, impl.RepForm)
		}
	}
	// A session that is none is not looked for.
	for _, session := range []int{0, 9, -1, math.MinInt, math.MaxInt} {
		for kind := 1; kind <= 16; kind++ {
			r := leastReq(kind)
			r.Session = session
			checkRejected(t, d, r, 3, impl.RepForm)
		}
	}
}

// The greatest numbers of requests that are valid.
func TestGreatestRequests(t *testing.T) {
	d := richDoc()
	for kind := 1; kind <= 16; kind++ {
		for _, n := range validWords() {
			for _, text := range []string{"a", strings.Repeat("\u00e9", 50)} {
				r := reqOfKind(kind, 2, n, text)
				checkDocDo(t, d, r, 1)
				for _, field := range []string{"A", "B", "C"} {
					if strings.Contains(usedFields()[kind], field) {
						checkDocDo(t, d, withNumber(reqOfKind(kind, 2, 0, text), field, n), 1)
						checkDocDo(t, d, withNumber(reqOfKind(kind, 2, 6, text), field, n), 3)
					}
				}
			}
		}
	}
}

func TestBases(t *testing.T) {
	for kind := 1; kind <= 16; kind++ {
		d := sceneOf(kind).d
		r := sceneOf(kind).r
		for _, base := range append(extremes(), -1, 4, 5, 60, 61) {
			if base >= 0 && base <= 3 {
				continue
			}
			checkRejected(t, d, r, base, impl.RepForm)
			checkPlanTo(t, d, r, base, impl.Edit{}, impl.RepForm)
		}
		for base := range 4 {
			if _, told := checkDocDo(t, d, r, base); told.Code != impl.RepFine {
				t.Fatalf("kind %d with base %d: %s", kind, base, replyText(told))
			}
		}
	}
	d := docOf("ab")
	d.Members = membersOf(1)
	for _, base := range []int{-1, 1, 2} {
		checkRejected(t, d, req(impl.ReqInsert, 1, 0, 0, 0, "x"), base, impl.RepForm)
		checkRejected(t, d, req(impl.ReqOpen, 2, 0, 0, 0, ""), base, impl.RepForm)
	}
	mustDo(t, d, req(impl.ReqInsert, 1, 0, 0, 0, "x"), 0)
}

// The same edit of version 0, after commits of the same session, of others, and of both.
func TestEditsMeantForOlderVersions(t *testing.T) {
	d := docOf("abcdefgh")
	d.Members = membersOf(1, 2, 3)
	for _, sessions := range [][]int{{1, 1}, {2, 2}, {2, 3}, {1, 2}, {2, 1}} {
		one := mustDo(t, d, req(impl.ReqInsert, sessions[0], 2, 0, 0, "XY"), 0)
		two := mustDo(t, one, req(impl.ReqDelete, sessions[1], 0, 3, 0, ""), 1)
		if string(two.Text) != "Ycdefgh" {
			t.Fatalf("two commits leave %q", two.Text)
		}
		for _, x := range []struct {
			r    impl.Req
			base int
			e    impl.Edit
			want string
		}{
			{req(impl.ReqInsert, 1, 4, 0, 0, "1"), 0, edit(3, 0, "1"), "Ycd1efgh"},
			{req(impl.ReqInsert, 1, 4, 0, 0, "1"), 1, edit(1, 0, "1"), "Y1cdefgh"},
			{req(impl.ReqInsert, 1, 4, 0, 0, "1"), 2, edit(4, 0, "1"), "Ycde1fgh"},
			// Where the others have inserted, it comes behind.
			{req(impl.ReqInsert, 1, 2, 0, 0, "1"), 0, edit(1, 0, "1"), "Y1cdefgh"},
			{req(impl.ReqInsert, 1, 1, 0, 0, "1"), 0, edit(0, 0, "1"), "1Ycdefgh"},
			{req(impl.ReqInsert, 1, 8, 0, 0, "1"), 0, edit(7, 0, "1"), "Ycdefgh1"},
			// What the others have inserted inside is deleted, and what they have deleted is gone.
			{req(impl.ReqDelete, 1, 1, 4, 0, ""), 0, edit(0, 3, ""), "efgh"},
			{req(impl.ReqReplace, 1, 0, 8, 0, "1"), 0, edit(0, 7, "1"), "1"},
			{req(impl.ReqReplace, 1, 0, 2, 0, "1"), 0, edit(0, 0, "1"), "1Ycdefgh"},
			{req(impl.ReqReplace, 1, 2, 4, 0, "1"), 0, edit(1, 2, "1"), "Y1efgh"},
			{req(impl.ReqReplace, 1, 3, 4, 0, "1"), 1, edit(0, 1, "1"), "1cdefgh"},
			{req(impl.ReqReplace, 1, 0, 7, 0, "1"), 2, edit(0, 7, "1"), "1"},
		} {
			checkPlanTo(t, two, x.r, x.base, x.e, impl.RepFine)
			for session := 1; session <= 3; session++ {
				r := x.r
				r.Session = session
				next, told := checkDocDo(t, two, r, x.base)
				if string(next.Text) != x.want || !sameReply(told, reply(0, 3, x.e.At, "")) || !sameCommit(next.Log[2], impl.Commit{Session: session, Edit: x.e}) {
					t.Fatalf("%s with base %d, after %v: %s; %s", reqText(r), x.base, sessions, docText(next), replyText(told))
				}
			}
		}
		// The place is checked in the text of the base, which need not be the one that is edited.
		checkRejected(t, two, req(impl.ReqInsert, 1, 9, 0, 0, "1"), 0, impl.RepRange)
		checkRejected(t, two, req(impl.ReqInsert, 1, 8, 0, 0, "1"), 2, impl.RepRange)
		checkRejected(t, two, req(impl.ReqInsert, 1, 11, 0, 0, "1"), 1, impl.RepRange)
		mustDo(t, two, req(impl.ReqInsert, 1, 10, 0, 0, "1"), 1)
		mustDo(t, two, req(impl.ReqInsert, 1, 8, 0, 0, "1"), 0)
		for base := range 3 {
			checkRejected(t, two, req(impl.ReqDelete, 1, 3, 2, 0, ""), base, impl.RepRange)
			checkRejected(t, two, req(impl.ReqReplace, 1, 1, 0, 0, "1"), base, impl.RepRange)
			checkRejected(t, two, req(impl.ReqReplace, 1, 65535, 65535, 0, "1"), base, impl.RepRange)
			checkRejected(t, two, req(impl.ReqDelete, 1, 0, 65535, 0, ""), base, impl.RepRange)
		}
	}
}

// What is within a code point of the base need not be within one any more.
func TestEditsMeantForWithinACodePoint(t *testing.T) {
	d := docOf("a\u00e9b")
	d.Members = membersOf(1, 2)
	d = mustDo(t, d, req(impl.ReqReplace, 2, 1, 3, 0, "xyz"), 0)
	checkRejected(t, d, req(impl.ReqInsert, 1, 2, 0, 0, "1"), 0, impl.RepRange)
	checkRejected(t, d, req(impl.ReqDelete, 1, 0, 2, 0, ""), 0, impl.RepRange)
	checkRejected(t, d, req(impl.ReqDelete, 1, 2, 3, 0, ""), 0, impl.RepRange)
	mustDo(t, d, req(impl.ReqInsert, 1, 2, 0, 0, "1"), 1)
}

// The Log has 59 commits, and then 60, and can have no more.
func TestFullLogs(t *testing.T) {
	d := docOf("abc")
	d.Members = members(member(1, 0, 0, stack(edits(edit(0, 1, "x")), edits(edit(1, 1, "y")))), member(2, 0, 0, impl.Stack{}))
	d.Log = noCommits(59)
	checkDocument(t, d)
	changes := []impl.Req{req(impl.ReqInsert, 1, 1, 0, 0, "z"), req(impl.ReqInsert, 2, 0, 0, 0, ""), req(impl.ReqDelete, 1, 1, 2, 0, ""), req(impl.ReqReplace, 2, 1, 2, 0, "z"), req(impl.ReqUndo, 1, 0, 0, 0, ""), req(impl.ReqRedo, 1, 0, 0, 0, "")}
	for _, r := range changes {
		for _, base := range []int{0, 30, 58, 59} {
			full := mustDo(t, d, r, base)
			if len(full.Log) != 60 {
				t.Fatalf("the version is %d", len(full.Log))
			}
			if base == 59 {
				checkDocument(t, full)
			}
			for _, more := range changes[:4] {
				checkRejected(t, full, more, 60, impl.RepFull)
				checkRejected(t, full, more, 0, impl.RepFull)
				checkRejected(t, full, more, 61, impl.RepForm)
			}
		}
	}
	d.Log = noCommits(60)
	for _, r := range changes {
		checkRejected(t, d, r, 60, impl.RepFull)
	}
	// What is no edit still has its effect.
	for _, r := range []impl.Req{req(impl.ReqOpen, 3, 0, 0, 0, ""), req(impl.ReqClose, 2, 0, 0, 0, ""), req(impl.ReqRead, 1, 0, 3, 0, ""), req(impl.ReqFind, 1, 0, 0, 0, "c"), req(impl.ReqBack, 1, 3, 0, 0, "c"), req(impl.ReqLine, 1, 3, 0, 0, ""), req(impl.ReqPlace, 1, 0, 3, 0, ""), req(impl.ReqSelect, 1, 1, 3, 0, ""), req(impl.ReqLock, 1, 0, 2, 5, "")} {
		mustDo(t, d, r, 60)
		mustDo(t, d, r, 0)
		checkRejected(t, d, r, 61, impl.RepForm)
	}
	checkDocDoTo(t, d, req(impl.ReqOpen, 3, 0, 0, 0, ""), 60, impl.Doc{Start: d.Start, Text: d.Text, Log: d.Log, Members: append(slices.Clone(d.Members), membersOf(3)...)}, reply(0, 60, 0, ""))
	for _, n := range []int{61, 62, 200, 5000} {
		d.Log = noCommits(n)
		checkInvalidDoc(t, fmt.Sprint(n, " commits"), d)
	}
}

// A text may become 400 bytes long, and no longer, whichever request makes it longer.
func TestFullTexts(t *testing.T) {
	hundred, wide := strings.Repeat("x", 100), strings.Repeat("\u00e9", 50)
	for _, x := range []struct {
		length, i, j int
		put          string
		want         int
	}{
		{399, 0, 0, "x", impl.RepFine}, {400, 0, 0, "x", impl.RepFull},
		{398, 398, 398, "xy", impl.RepFine}, {399, 399, 399, "xy", impl.RepFull},
		{300, 7, 7, hundred, impl.RepFine}, {301, 7, 7, hundred, impl.RepFull},
		{397, 10, 10, "\u20ac", impl.RepFine}, {398, 10, 10, "\u20ac", impl.RepFull},
		{399, 5, 6, "xy", impl.RepFine}, {400, 5, 6, "xy", impl.RepFull},
		{400, 5, 7, "xy", impl.RepFine}, {400, 5, 7, "xyz", impl.RepFull},
		{400, 0, 100, hundred, impl.RepFine}, {400, 0, 99, hundred, impl.RepFull},
		{350, 0, 50, wide, impl.RepFine}, {350, 0, 49, wide, impl.RepFull},
		{400, 0, 0, "", impl.RepFine}, {400, 400, 400, "", impl.RepFine}, {400, 0, 400, "", impl.RepFine},
	} {
		turned := edits(edit(x.i, x.j-x.i, x.put))
		d := docOf(strings.Repeat("b", x.length))
		d.Members = members(member(1, 0, 0, stack(turned, turned)))
		list := []impl.Req{req(impl.ReqReplace, 1, x.i, x.j, 0, x.put), req(impl.ReqUndo, 1, 0, 0, 0, ""), req(impl.ReqRedo, 1, 0, 0, 0, "")}
		if x.i == x.j {
			list = append(list, req(impl.ReqInsert, 1, x.i, 0, 0, x.put))
		}
		for _, r := range list {
			if x.want != impl.RepFine {
				checkRejected(t, d, r, 0, x.want)
				continue
			}
			checkDocument(t, mustDo(t, d, r, 0))
		}
	}
	// It is the edited text that counts, and not the one that the edit was meant for.
	d := docOf(strings.Repeat("b", 380))
	d.Members = membersOf(1)
	d = mustDo(t, d, req(impl.ReqInsert, 1, 0, 0, 0, strings.Repeat("x", 15)), 0)
	checkRejected(t, d, req(impl.ReqInsert, 1, 0, 0, 0, "123456"), 0, impl.RepFull)
	checkPlanTo(t, d, req(impl.ReqInsert, 1, 0, 0, 0, "123456"), 0, edit(15, 0, "123456"), impl.RepFine)
	mustDo(t, d, req(impl.ReqInsert, 1, 0, 0, 0, "12345"), 0)
	d = mustDo(t, d, req(impl.ReqDelete, 1, 0, 100, 0, ""), 1)
	mustDo(t, d, req(impl.ReqInsert, 1, 0, 0, 0, strings.Repeat("x", 100)), 0)
	// What was cut before is cut no more.
	d = docOf(strings.Repeat("b", 400))
	d.Members = membersOf(1, 2)
	d = mustDo(t, d, req(impl.ReqReplace, 2, 0, 10, 0, "1234567890"), 0)
	checkRejected(t, d, req(impl.ReqReplace, 1, 0, 10, 0, "1"), 0, impl.RepFull)
	mustDo(t, d, req(impl.ReqReplace, 1, 0, 11, 0, "1"), 0)
}

// An undo, and a redo, that another session has left room for, or not.
func TestUndoAndRedoOfFullTexts(t *testing.T) {
	for _, x := range []struct{ n, want int }{{50, impl.RepFine}, {51, impl.RepFull}} {
		d := docOf(strings.Repeat("b", 350))
		d.Members = membersOf(1, 2)
		d = mustDo(t, d, req(impl.ReqDelete, 1, 0, 50, 0, ""), 0)
		undo := mustDo(t, d, req(impl.ReqInsert, 2, 300, 0, 0, strings.Repeat("x", x.n)), 1)
		if _, told := checkDocDo(t, undo, req(impl.ReqUndo, 1, 0, 0, 0, ""), 2); told.Code != x.want {
			t.Errorf("with %d bytes more, the undo replies %s", x.n, replyText(told))
		}
		d = docOf(strings.Repeat("b", 300))
		d.Members = membersOf(1, 2)
		d = mustDo(t, d, req(impl.ReqInsert, 1, 0, 0, 0, strings.Repeat("y", 50)), 0)
		d = mustDo(t, d, req(impl.ReqUndo, 1, 0, 0, 0, ""), 0)
		redo := mustDo(t, d, req(impl.ReqInsert, 2, 300, 0, 0, strings.Repeat("x", x.n)), 2)
		if _, told := checkDocDo(t, redo, req(impl.ReqRedo, 1, 0, 0, 0, ""), 2); told.Code != x.want {
			t.Errorf("with %d bytes more, the redo replies %s", x.n, replyText(told))
		}
	}
}

func TestTicks(t *testing.T) {
	d := richDoc()
	for _, x := range []struct {
		n, clock int
		want     []impl.Lease
	}{
		{1, 8, leases(lease(2, 4, 1, 9), lease(6, 8, 2, 20))},
		{2, 9, leases(lease(6, 8, 2, 20))},
		{12, 19, leases(lease(6, 8, 2, 20))},
		{13, 20, nil}, {14, 21, nil}, {992, 999, nil}, {993, 1000, nil}, {994, 1000, nil}, {1000, 1000, nil},
	} {
		want := richDoc()
		want.Clock, want.Leases = x.clock, x.want
		checkTickTo(t, d, x.n, want, true)
	}
	for _, n := range append(extremes(), 0, -1, 1001, 1002) {
		checkTickTo(t, d, n, impl.Doc{}, false)
	}
	// At the end of time, nothing changes any more.
	d.Clock, d.Leases = 1000, nil
	for _, n := range []int{1, 2, 999, 1000} {
		checkTickTo(t, d, n, d, true)
	}
	checkTickTo(t, d, 0, impl.Doc{}, false)
	checkTickTo(t, d, 1001, impl.Doc{}, false)
	checkRejected(t, d, req(impl.ReqLock, 1, 0, 2, 1, ""), 3, impl.RepClock)
	d.Clock, d.Leases = 999, leases(lease(2, 4, 1, 1000))
	checkTickTo(t, d, 1, impl.Doc{Start: d.Start, Text: d.Text, Log: d.Log, Clock: 1000, Members: d.Members}, true)
	mustDo(t, d, req(impl.ReqLock, 1, 0, 2, 1, ""), 3)
	checkRejected(t, d, req(impl.ReqLock, 1, 0, 2, 2, ""), 3, impl.RepClock)
}

func TestTicksAddUp(t *testing.T) {
	d := richDoc()
	d.Leases = leases(lease(2, 4, 1, 9), lease(6, 8, 2, 20), lease(9, 13, 4, 1000), lease(13, 14, 4, 500))
	for _, a := range []int{1, 2, 3, 12, 13, 492, 493, 500, 991, 992, 993, 999} {
		for _, b := range []int{1, 2, 12, 13, 400, 492, 493, 501, 993} {
			first, ok := impl.DocTick(d, a)
			second, fine := impl.DocTick(first, b)
			if !ok || !fine {
				t.Fatalf("no ticks by %d and %d", a, b)
			}
			checkTickTo(t, d, min(a+b, 1000), second, true)
		}
	}
	one := d
	for n := 1; n <= 1000; n++ {
		next, ok := impl.DocTick(one, 1)
		if !ok {
			t.Fatalf("no tick at %d", one.Clock)
		}
		one = next
		checkTickTo(t, d, n, one, true)
	}
}

// At 9, the leases until 8 and until 9 have ended, and a document has none of these.
func TestLeasesAndTheClock(t *testing.T) {
	for _, clock := range []int{0, 1, 8, 9, 10, 998, 999, 1000} {
		for _, till := range []int{0, 1, 2, 8, 9, 10, 11, 999, 1000, 1001} {
			d := docOf("abcdef")
			d.Clock = clock
			d.Members = membersOf(1, 2)
			d.Leases = leases(lease(1, 4, 2, till))
			if till <= clock || till > 1000 {
				checkInvalidDoc(t, "a lease that has ended", d)
				continue
			}
			checkDocument(t, d)
			checkRejected(t, d, req(impl.ReqInsert, 1, 2, 0, 0, "x"), 0, impl.RepLocked)
			checkRejected(t, d, req(impl.ReqLock, 1, 0, 2, 1, ""), 0, impl.RepLocked)
			mustDo(t, d, req(impl.ReqRenew, 2, 1, 4, 1, ""), 0)
			later, _ := impl.DocTick(d, till-clock)
			mustDo(t, later, req(impl.ReqInsert, 1, 2, 0, 0, "x"), 0)
			checkRejected(t, later, req(impl.ReqUnlock, 2, 1, 4, 0, ""), 0, impl.RepNone)
			if till-clock > 1 {
				before, _ := impl.DocTick(d, till-clock-1)
				checkRejected(t, before, req(impl.ReqInsert, 1, 2, 0, 0, "x"), 0, impl.RepLocked)
			}
			// Till is Clock + C, and at most 1000.
			for _, c := range []int{1, 2, 999 - clock, 1000 - clock, 1001 - clock, 1002 - clock, 65535} {
				if c < 1 {
					continue
				}
				r := req(impl.ReqLock, 2, 4, 6, c, "")
				if clock+c > 1000 {
					checkRejected(t, d, r, 0, impl.RepClock)
					r.Kind, r.A, r.B = impl.ReqRenew, 1, 4
					checkRejected(t, d, r, 0, impl.RepClock)
					continue
				}
				if got := mustDo(t, d, r, 0).Leases; !slices.Equal(got, leases(lease(1, 4, 2, till), lease(4, 6, 2, clock+c))) {
					t.Fatalf("at %d, %s leaves %v", clock, reqText(r), got)
				}
				r.Kind, r.A, r.B = impl.ReqRenew, 1, 4
				if got := mustDo(t, d, r, 0).Leases; !slices.Equal(got, leases(lease(1, 4, 2, clock+c))) {
					t.Fatalf("at %d, %s leaves %v", clock, reqText(r), got)
				}
			}
		}
	}
}

// Session 2 has a lease of "cde". At its ends, anybody may edit; inside, only session 2.
func TestEditsAtLeases(t *testing.T) {
	d := docOf("abcdefgh")
	d.Members = membersOf(1, 2, 3)
	d.Leases = leases(lease(2, 5, 2, 9))
	for _, x := range []struct {
		i, j   int
		barred bool
		want   []impl.Lease
	}{
		{0, 0, false, leases(lease(4, 7, 2, 9))}, {1, 1, false, leases(lease(4, 7, 2, 9))}, {2, 2, false, leases(lease(4, 7, 2, 9))},
		{3, 3, true, leases(lease(2, 7, 2, 9))}, {4, 4, true, leases(lease(2, 7, 2, 9))},
		{5, 5, false, leases(lease(2, 5, 2, 9))}, {6, 6, false, leases(lease(2, 5, 2, 9))}, {8, 8, false, leases(lease(2, 5, 2, 9))},
		{0, 1, false, leases(lease(3, 6, 2, 9))}, {0, 2, false, leases(lease(2, 5, 2, 9))}, {1, 2, false, leases(lease(3, 6, 2, 9))},
		{0, 3, true, leases(lease(2, 4, 2, 9))}, {1, 3, true, leases(lease(3, 5, 2, 9))}, {2, 3, true, leases(lease(4, 6, 2, 9))},
		{3, 4, true, leases(lease(2, 6, 2, 9))}, {4, 5, true, leases(lease(2, 6, 2, 9))}, {2, 5, true, nil}, {1, 5, true, nil}, {2, 6, true, nil}, {0, 8, true, nil},
		{4, 6, true, leases(lease(2, 4, 2, 9))}, {5, 6, false, leases(lease(2, 5, 2, 9))}, {5, 8, false, leases(lease(2, 5, 2, 9))},
	} {
		insertion := req(impl.ReqInsert, 1, x.i, 0, 0, "XY")
		replacement := req(impl.ReqReplace, 1, x.i, x.j, 0, "XY")
		list := []impl.Req{replacement}
		if x.i == x.j {
			list = append(list, insertion)
		}
		for _, r := range list {
			for session := 1; session <= 3; session++ {
				r.Session = session
				if x.barred && session != 2 {
					checkRejected(t, d, r, 0, impl.RepLocked)
					continue
				}
				if got := mustDo(t, d, r, 0).Leases; !slices.Equal(got, x.want) {
					t.Fatalf("%s leaves %v", reqText(r), got)
				}
			}
		}
		// The same for edits that are turned, and for deletions.
		e := edits(edit(x.i, x.j-x.i, "XY"))
		for session := 1; session <= 3; session++ {
			turned := d
			turned.Members = slices.Clone(d.Members)
			turned.Members[session-1].Stack = stack(e, e)
			for _, r := range []impl.Req{req(impl.ReqUndo, session, 0, 0, 0, ""), req(impl.ReqRedo, session, 0, 0, 0, ""), req(impl.ReqDelete, session, x.i, x.j, 0, "")} {
				if _, told := checkDocDo(t, turned, r, 0); (told.Code == impl.RepLocked) != (x.barred && session != 2) {
					t.Fatalf("%s replies %s", reqText(r), replyText(told))
				}
			}
		}
	}
	// Where the edit is committed counts, and not where it was meant to be.
	moved := mustDo(t, d, req(impl.ReqInsert, 1, 0, 0, 0, "12"), 0)
	checkRejected(t, moved, req(impl.ReqInsert, 1, 3, 0, 0, "x"), 0, impl.RepLocked)
	mustDo(t, moved, req(impl.ReqInsert, 1, 3, 0, 0, "x"), 1)
	mustDo(t, moved, req(impl.ReqInsert, 1, 2, 0, 0, "x"), 0)
	checkRejected(t, moved, req(impl.ReqInsert, 1, 6, 0, 0, "x"), 1, impl.RepLocked)
	mustDo(t, moved, req(impl.ReqInsert, 1, 6, 0, 0, "x"), 0)
}

// Leases of one session may overlap, and empty ones may be anywhere; others may only touch.
func TestLeasesThatMayStandTogether(t *testing.T) {
	list := []struct {
		a, b impl.Lease
		want bool
	}{
		{lease(2, 5, 1, 9), lease(2, 5, 2, 9), false}, {lease(2, 5, 1, 9), lease(3, 4, 2, 9), false}, {lease(2, 5, 1, 9), lease(4, 6, 2, 9), false}, {lease(2, 5, 1, 9), lease(2, 3, 2, 9), false}, {lease(0, 8, 1, 9), lease(7, 8, 2, 9), false},
		{lease(2, 5, 1, 9), lease(5, 6, 2, 9), true}, {lease(2, 5, 2, 9), lease(0, 2, 1, 9), true}, {lease(2, 5, 1, 9), lease(3, 4, 1, 9), true}, {lease(2, 5, 1, 9), lease(4, 6, 1, 9), true},
		{lease(2, 5, 1, 9), lease(3, 3, 2, 9), true}, {lease(3, 3, 1, 9), lease(3, 3, 2, 9), true}, {lease(2, 5, 1, 9), lease(2, 2, 2, 9), true}, {lease(0, 0, 1, 9), lease(8, 8, 2, 9), true},
	}
	for _, x := range list {
		d := docOf("abcdefgh")
		d.Members = membersOf(1, 2)
		d.Leases = modelSorted(leases(x.a, x.b))
		if !x.want {
			checkInvalidDoc(t, "leases that overlap", d)
			continue
		}
		checkDocOk(t, d, true)
		checkDocument(t, d)
		for _, e := range someEdits("abcdefgh", "", "XY") {
			for session := 1; session <= 2; session++ {
				checkDocDo(t, d, req(impl.ReqReplace, session, e.At, e.At+e.Cut, 0, string(e.Put)), 0)
			}
		}
	}
}

// The session that edits is moved behind what it puts where it stands; the others are moved as they lie.
func TestSelectionsAfterCommits(t *testing.T) {
	replaced, inserted := edit(3, 2, "abc"), edit(3, 0, "abc")
	for _, x := range []struct {
		e          impl.Edit
		from, to   int
		own, other impl.Sel
	}{
		{replaced, 3, 3, impl.Sel{From: 6, To: 6}, impl.Sel{From: 3, To: 3}},
		{replaced, 4, 4, impl.Sel{From: 6, To: 6}, impl.Sel{From: 3, To: 3}},
		{replaced, 5, 5, impl.Sel{From: 6, To: 6}, impl.Sel{From: 6, To: 6}},
		{replaced, 3, 4, impl.Sel{From: 6, To: 6}, impl.Sel{From: 3, To: 6}},
		{replaced, 4, 3, impl.Sel{From: 6, To: 6}, impl.Sel{From: 6, To: 3}},
		{replaced, 3, 5, impl.Sel{From: 6, To: 6}, impl.Sel{From: 3, To: 6}},
		{replaced, 2, 6, impl.Sel{From: 2, To: 7}, impl.Sel{From: 2, To: 7}},
		{replaced, 6, 2, impl.Sel{From: 7, To: 2}, impl.Sel{From: 7, To: 2}},
		{replaced, 8, 0, impl.Sel{From: 9, To: 0}, impl.Sel{From: 9, To: 0}},
		{inserted, 3, 3, impl.Sel{From: 6, To: 6}, impl.Sel{From: 3, To: 3}},
		{inserted, 3, 5, impl.Sel{From: 6, To: 8}, impl.Sel{From: 3, To: 8}},
		{inserted, 5, 3, impl.Sel{From: 8, To: 6}, impl.Sel{From: 8, To: 3}},
		{inserted, 1, 3, impl.Sel{From: 1, To: 6}, impl.Sel{From: 1, To: 6}},
		{inserted, 3, 1, impl.Sel{From: 6, To: 1}, impl.Sel{From: 6, To: 1}},
		{inserted, 2, 2, impl.Sel{From: 2, To: 2}, impl.Sel{From: 2, To: 2}},
		{inserted, 4, 4, impl.Sel{From: 7, To: 7}, impl.Sel{From: 7, To: 7}},
	} {
		for own := 1; own <= 3; own++ {
			d := docOf("12345678")
			for session := 1; session <= 3; session++ {
				d.Members = append(d.Members, member(session, x.from, x.to, stack(edits(x.e), edits(x.e))))
			}
			for _, r := range []impl.Req{req(impl.ReqReplace, own, x.e.At, x.e.At+x.e.Cut, 0, string(x.e.Put)), req(impl.ReqUndo, own, 0, 0, 0, ""), req(impl.ReqRedo, own, 0, 0, 0, "")} {
				for _, m := range mustDo(t, d, r, 0).Members {
					want := x.other
					if m.Session == own {
						want = x.own
					}
					if m.Sel != want {
						t.Fatalf("%s moves the selection %d..%d of session %d to %v, not %v", reqText(r), x.from, x.to, m.Session, m.Sel, want)
					}
				}
			}
		}
	}
}

// Every edit of a stack is moved by every commit; then the own stack gets the inverse of the edit as it is.
func TestStacksAfterCommits(t *testing.T) {
	was := stack(edits(edit(0, 1, "u"), edit(3, 2, "v"), edit(6, 2, "")), edits(edit(3, 0, "w"), edit(4, 0, "x"), edit(2, 5, "y")))
	d := docOf("12345678")
	d.Members = members(member(1, 0, 0, was), member(2, 0, 0, was), member(3, 0, 0, was))
	by := edit(3, 2, "abc")
	moved, _ := impl.StackMoved(was, by)
	if want := stack(edits(edit(0, 1, "u"), edit(6, 0, "v"), edit(7, 2, "")), edits(edit(6, 0, "w"), edit(6, 0, "x"), edit(2, 6, "y"))); !sameStack(moved, want) {
		t.Fatalf("the stack is moved to %s", stackText(moved))
	}
	for own := range 3 {
		next := mustDo(t, d, req(impl.ReqReplace, own+1, 3, 5, 0, "abc"), 0)
		for i, m := range next.Members {
			want := moved
			if i == own {
				want = stack(append(slices.Clone(moved.Undo), edit(3, 3, "45")), nil)
			}
			if !sameStack(m.Stack, want) {
				t.Fatalf("an edit of session %d moves the stack of session %d to %s, not %s", own+1, m.Session, stackText(m.Stack), stackText(want))
			}
		}
		next = mustDo(t, d, req(impl.ReqUndo, own+1, 0, 0, 0, ""), 0)
		if string(next.Text) != "123456" || !sameStack(next.Members[own].Stack, stack(edits(edit(0, 1, "u"), edit(3, 2, "v")), edits(edit(3, 0, "w"), edit(4, 0, "x"), edit(2, 4, "y"), edit(6, 0, "78")))) {
			t.Fatalf("the undo leaves %s", docText(next))
		}
		next = mustDo(t, d, req(impl.ReqRedo, own+1, 0, 0, 0, ""), 0)
		if string(next.Text) != "12y8" || !sameStack(next.Members[own].Stack, stack(edits(edit(0, 1, "u"), edit(3, 0, "v"), edit(3, 1, ""), edit(2, 1, "34567")), edits(edit(3, 0, "w"), edit(3, 0, "x")))) {
			t.Fatalf("the redo leaves %s", docText(next))
		}
	}
}

// A stack keeps the last six edits, whether they are new, undone or redone.
func TestFullStacksOfDocs(t *testing.T) {
	d := docOf("")
	d.Members = membersOf(1)
	text := "abcdefgh"
	for i := range text {
		d = mustDo(t, d, req(impl.ReqInsert, 1, i, 0, 0, text[i:i+1]), i)
	}
	for n := 7; n >= 2; n-- {
		d = mustDo(t, d, req(impl.ReqUndo, 1, 0, 0, 0, ""), 0)
		if string(d.Text) != text[:n] {
			t.Fatalf("the undo leaves %q", d.Text)
		}
	}
	checkRejected(t, d, req(impl.ReqUndo, 1, 0, 0, 0, ""), 0, impl.RepNone)
	for n := 3; n <= 8; n++ {
		d = mustDo(t, d, req(impl.ReqRedo, 1, 0, 0, 0, ""), 0)
		if string(d.Text) != text[:n] {
			t.Fatalf("the redo leaves %q", d.Text)
		}
	}
	checkRejected(t, d, req(impl.ReqRedo, 1, 0, 0, 0, ""), 0, impl.RepNone)
	// A new edit leaves nothing to redo.
	d = mustDo(t, d, req(impl.ReqUndo, 1, 0, 0, 0, ""), 0)
	d = mustDo(t, d, req(impl.ReqInsert, 1, 0, 0, 0, "!"), 0)
	checkRejected(t, d, req(impl.ReqRedo, 1, 0, 0, 0, ""), 0, impl.RepNone)
}

// checkUndoRestores executes an edit, an undo and a redo of a session, and asserts promise 12.
func checkUndoRestores(t *testing.T, d impl.Doc, r impl.Req, base int) {
	t.Helper()
	edited := mustDo(t, d, r, base)
	undone := mustDo(t, edited, req(impl.ReqUndo, r.Session, 0, 0, 0, ""), len(edited.Log))
	if !bytes.Equal(undone.Text, d.Text) {
		t.Fatalf("%s changes %q to %q, and the undo to %q", reqText(r), d.Text, edited.Text, undone.Text)
	}
	redone := mustDo(t, undone, req(impl.ReqRedo, r.Session, 0, 0, 0, ""), len(undone.Log))
	if !bytes.Equal(redone.Text, edited.Text) {
		t.Fatalf("%s changes %q to %q, and the redo to %q", reqText(r), d.Text, edited.Text, redone.Text)
	}
	again := mustDo(t, redone, req(impl.ReqUndo, r.Session, 0, 0, 0, ""), 0)
	if !bytes.Equal(again.Text, d.Text) {
		t.Fatalf("%s changes %q to %q, and the second undo to %q", reqText(r), d.Text, edited.Text, again.Text)
	}
}

// replacing returns the request that asks for an edit.
func replacing(session int, e impl.Edit) impl.Req {
	return req(impl.ReqReplace, session, e.At, e.At+e.Cut, 0, string(e.Put))
}

func TestUndoDirectlyAfterAnOwnEdit(t *testing.T) {
	for _, text := range []string{"", "a\u00e9\nb", "abcdef"} {
		d := docOf(text)
		d.Members = membersOf(1, 2, 3)
		later := mustDo(t, d, req(impl.ReqInsert, 2, 0, 0, 0, "12"), 0)
		later = mustDo(t, later, req(impl.ReqInsert, 1, len(later.Text), 0, 0, "\u20ac"), 1)
		for _, e := range someEdits(text, "", "X", "\u00e9Y\n") {
			checkUndoRestores(t, d, replacing(1, e), 0)
			checkUndoRestores(t, later, replacing(1, e), 0)
			checkUndoRestores(t, later, replacing(3, e), 0)
			if e.Cut == 0 {
				checkUndoRestores(t, d, req(impl.ReqInsert, 2, e.At, 0, 0, string(e.Put)), 0)
			}
			if len(e.Put) == 0 {
				checkUndoRestores(t, d, req(impl.ReqDelete, 2, e.At, e.At+e.Cut, 0, ""), 0)
			}
		}
	}
	full := docOf(strings.Repeat("\u00e9", 200))
	full.Members = membersOf(1)
	checkUndoRestores(t, full, req(impl.ReqDelete, 1, 0, 400, 0, ""), 0)
	checkUndoRestores(t, full, req(impl.ReqReplace, 1, 100, 300, 0, strings.Repeat("\u00e9", 50)), 0)
}

// Between the edit and the undo, and between the undo and the redo, another session edits the same text.
func TestUndoAfterEditsOfOthers(t *testing.T) {
	const text = "abcdef"
	d := docOf(text)
	d.Members = membersOf(1, 2)
	apart, touching := 0, 0
	for _, mine := range someEdits(text, "", "X", "XY") {
		edited := mustDo(t, d, replacing(1, mine), 0)
		back := edit(mine.At, len(mine.Put), text[mine.At:mine.At+mine.Cut])
		for _, other := range someEdits(string(edited.Text), "", "12") {
			both := mustDo(t, edited, replacing(2, other), 1)
			undone := mustDo(t, both, req(impl.ReqUndo, 1, 0, 0, 0, ""), 2)
			redone := mustDo(t, undone, req(impl.ReqRedo, 1, 0, 0, 0, ""), 3)
			if !modelApart(back, other) {
				touching++
				continue
			}
			apart++
			// Only the other edit is left, where it would be without the own one.
			moved, _ := modelMove(other, back)
			if want, _ := modelDo(text, moved); string(undone.Text) != want {
				t.Fatalf("after %s and %s, the undo leaves %q, not %q", editText(mine), editText(other), undone.Text, want)
			}
			if !bytes.Equal(redone.Text, both.Text) {
				t.Fatalf("after %s and %s, the redo leaves %q, not %q", editText(mine), editText(other), redone.Text, both.Text)
			}
			if want := edit(undone.Log[2].Edit.At, undone.Log[2].Edit.Cut, string(back.Put)); undone.Log[2].Edit.Cut != back.Cut || !sameEdit(undone.Log[2].Edit, want) {
				t.Fatalf("after %s and %s, the undo commits %s", editText(mine), editText(other), editText(undone.Log[2].Edit))
			}
			// Another edit between the undo and the redo.
			for _, third := range []impl.Edit{edit(0, 0, "3"), edit(len(undone.Text), 0, "3")} {
				if modelApart(third, redone.Log[3].Edit) {
					last := mustDo(t, mustDo(t, undone, replacing(2, third), 3), req(impl.ReqRedo, 1, 0, 0, 0, ""), 3)
					after, _ := modelMove(third, redone.Log[3].Edit)
					if want, _ := modelDo(string(redone.Text), after); string(last.Text) != want {
						t.Fatalf("after %s, %s and %s, the redo leaves %q, not %q", editText(mine), editText(other), editText(third), last.Text, want)
					}
				}
			}
		}
	}
	if apart < 1000 || touching < 1000 {
		t.Errorf("%d edits are apart, and %d are not", apart, touching)
	}
}

// What the other session does to the bytes of the own edit is undone with it, or stays.
func TestUndoAfterEditsThatAreNotApart(t *testing.T) {
	d := docOf("abcdef")
	d.Members = membersOf(1, 2)
	edited := mustDo(t, d, req(impl.ReqReplace, 1, 2, 4, 0, "XYZ"), 0)
	for _, x := range []struct {
		other          impl.Edit
		undone, redone string
	}{
		{edit(3, 0, "1"), "abcdef", "abX1YZef"},
		{edit(3, 1, ""), "abcdef", "abXZef"},
		{edit(3, 1, "12"), "abcdef", "abX12Zef"},
		{edit(2, 0, "1"), "ab1cdef", "ab1XYZef"},
		{edit(5, 0, "1"), "abcd1ef", "abXYZ1ef"},
		{edit(1, 2, "1"), "a1cdef", "a1YZef"},
		{edit(4, 2, "1"), "abcd1f", "abXY1f"},
		{edit(2, 3, ""), "abcdef", "abef"},
		{edit(2, 3, "1"), "ab1cdef", "ab1ef"},
		{edit(0, 7, ""), "cd", ""},
		{edit(0, 7, "1"), "1cd", "1"},
	} {
		both := mustDo(t, edited, replacing(2, x.other), 1)
		undone := mustDo(t, both, req(impl.ReqUndo, 1, 0, 0, 0, ""), 2)
		redone := mustDo(t, undone, req(impl.ReqRedo, 1, 0, 0, 0, ""), 3)
		if string(undone.Text) != x.undone || string(redone.Text) != x.redone {
			t.Errorf("after %s, the undo leaves %q and the redo %q", editText(x.other), undone.Text, redone.Text)
		}
	}
}

func TestNothingToUndoOrRedo(t *testing.T) {
	d := docOf("abc")
	d.Members = membersOf(1, 2)
	d = mustDo(t, d, req(impl.ReqInsert, 2, 0, 0, 0, "x"), 0)
	checkRejected(t, d, req(impl.ReqUndo, 1, 0, 0, 0, ""), 1, impl.RepNone)
	checkRejected(t, d, req(impl.ReqRedo, 1, 0, 0, 0, ""), 1, impl.RepNone)
	checkRejected(t, d, req(impl.ReqRedo, 2, 0, 0, 0, ""), 1, impl.RepNone)
	d = mustDo(t, d, req(impl.ReqUndo, 2, 0, 0, 0, ""), 1)
	checkRejected(t, d, req(impl.ReqUndo, 2, 0, 0, 0, ""), 2, impl.RepNone)
	d = mustDo(t, d, req(impl.ReqRedo, 2, 0, 0, 0, ""), 2)
	checkRejected(t, d, req(impl.ReqRedo, 2, 0, 0, 0, ""), 3, impl.RepNone)
	// Neither a query nor a selection nor a lease is undone.
	d = mustDo(t, d, req(impl.ReqSelect, 1, 0, 1, 0, ""), 3)
	d = mustDo(t, d, req(impl.ReqLock, 1, 0, 1, 5, ""), 3)
	d = mustDo(t, d, req(impl.ReqRead, 1, 0, 1, 0, ""), 3)
	checkRejected(t, d, req(impl.ReqUndo, 1, 0, 0, 0, ""), 3, impl.RepNone)
	// Who leaves and comes back has nothing to undo.
	d = mustDo(t, d, req(impl.ReqClose, 2, 0, 0, 0, ""), 3)
	d = mustDo(t, d, req(impl.ReqOpen, 2, 0, 0, 0, ""), 3)
	checkRejected(t, d, req(impl.ReqUndo, 2, 0, 0, 0, ""), 3, impl.RepNone)
}

// docChange makes another document of one.
type docChange struct {
	name  string
	valid bool
	make  func(d *impl.Doc)
}

// textChanges change Start, Text and Log of richDoc.
func textChanges() []docChange {
	return []docChange{
		{"another Start", false, func(d *impl.Doc) { d.Start = []byte("bbcdef\ngh\u00e9") }},
		{"a shorter Start", false, func(d *impl.Doc) { d.Start = d.Start[:8] }},
		{"no Start", false, func(d *impl.Doc) { d.Start = nil }},
		{"a Start that is no text", false, func(d *impl.Doc) { d.Start = []byte("abcdef\ngh\xc3") }},
		{"Start and Text that are no texts", false, func(d *impl.Doc) {
			*d = impl.Doc{Start: []byte("ab\xff"), Text: []byte("ab\xff")}
		}},
		{"Start and Text that are too long", false, func(d *impl.Doc) { *d = docOf(strings.Repeat("a", 401)) }},
		{"Start and Text that are long", true, func(d *impl.Doc) { *d = docOf(strings.Repeat("a", 400)) }},
		{"a Start that is too long at first", false, func(d *impl.Doc) {
			*d = docOf(strings.Repeat("a", 401))
			d.Log, d.Text = commits(commit(1, 0, 1, "")), d.Text[1:]
		}},
		{"another Text", false, func(d *impl.Doc) { d.Text = []byte("12abCdef\ngh\u00e9?") }},
		{"a shorter Text", false, func(d *impl.Doc) { d.Text = d.Text[:13] }},
		{"a longer Text", false, func(d *impl.Doc) { d.Text = append(d.Text, '?') }},
		{"no Text", false, func(d *impl.Doc) { d.Text = nil }},
		{"Start as Text", false, func(d *impl.Doc) { d.Text = d.Start }},
		{"no Log", false, func(d *impl.Doc) { d.Log = nil }},
		{"a shorter Log", false, func(d *impl.Doc) { d.Log = d.Log[:2] }},
		{"a later Log", false, func(d *impl.Doc) { d.Log = d.Log[1:] }},
		{"a commit twice", false, func(d *impl.Doc) { d.Log = append(d.Log, d.Log[2]) }},
		{"another order", false, func(d *impl.Doc) { d.Log[0], d.Log[2] = d.Log[2], d.Log[0] }},
		{"a commit that changes nothing", true, func(d *impl.Doc) { d.Log = append(d.Log, commit(8, 14, 0, "")) }},
		{"a replacement by the same", true, func(d *impl.Doc) { d.Log = append(d.Log, commit(8, 11, 2, "\u00e9")) }},
		{"an edit within a code point", false, func(d *impl.Doc) { d.Log = append(d.Log, commit(8, 12, 0, "")) }},
		{"an edit to within a code point", false, func(d *impl.Doc) { d.Log = append(d.Log, commit(8, 11, 1, "\xc3")) }},
		{"an edit behind the end", false, func(d *impl.Doc) { d.Log = append(d.Log, commit(8, 15, 0, "")) }},
		{"an edit before the start", false, func(d *impl.Doc) { d.Log = append(d.Log, commit(8, -1, 0, "")) }},
		{"an edit that cuts too much", false, func(d *impl.Doc) { d.Log = append(d.Log, commit(8, 14, 1, "")) }},
		{"an edit that cuts less than nothing", false, func(d *impl.Doc) { d.Log = append(d.Log, commit(8, 14, -1, "")) }},
		{"an edit that puts no text", false, func(d *impl.Doc) {
			d.Log, d.Text = append(d.Log, commit(8, 14, 0, "\xff")), append(d.Text, 255)
		}},
		{"a text that is full in between", true, func(d *impl.Doc) {
			d.Log = append(d.Log, commit(8, 0, 0, strings.Repeat("a", 386)), commit(8, 0, 386, ""))
		}},
		{"a text that is too long in between", false, func(d *impl.Doc) {
			d.Log = append(d.Log, commit(8, 0, 0, strings.Repeat("a", 387)), commit(8, 0, 387, ""))
		}},
		{"a text that is none in between", false, func(d *impl.Doc) {
			d.Log = append(d.Log, commit(8, 11, 1, ""), commit(8, 11, 0, "\xc3"))
		}},
	}
}

// memberChanges change the members of richDoc.
func memberChanges() []docChange {
	turned := func(valid bool, list ...impl.Edit) []docChange {
		return []docChange{
			{"an edit to undo " + editTexts(list), valid, func(d *impl.Doc) { d.Members[1].Stack.Undo = list }},
			{"an edit to redo " + editTexts(list), valid, func(d *impl.Doc) { d.Members[1].Stack.Redo = list }},
			{"an edit of the last member " + editTexts(list), valid, func(d *impl.Doc) { d.Members[2].Stack.Redo = list }},
		}
	}
	row := rowOfEdits(7, 0)
	for i := range row {
		row[i].At, row[i].Cut = 2, 3
	}
	long := strings.Repeat("a", 400)
	return slices.Concat([]docChange{
		{"no members", true, func(d *impl.Doc) { d.Members = nil }},
		{"a member twice", false, func(d *impl.Doc) { d.Members[1].Session = 1 }},
		{"the last member twice", false, func(d *impl.Doc) { d.Members[1].Session = 4 }},
		{"members in another order", false, func(d *impl.Doc) { d.Members[0], d.Members[1] = d.Members[1], d.Members[0] }},
		{"the last member first", false, func(d *impl.Doc) { d.Members[2].Session, d.Members[0].Session = 1, 4 }},
		{"another member", true, func(d *impl.Doc) { d.Members[2].Session = 8 }},
		{"a stack that is empty", true, func(d *impl.Doc) { d.Members[1].Stack = impl.Stack{} }},
	},
		turned(true, row[:6]...), turned(false, row...), turned(true),
		// The text may become too long, but not when it is committed.
		turned(true, edit(0, 0, long)), turned(true, edit(14, 0, long)), turned(true, edit(0, 14, long)), turned(false, edit(0, 0, long+"a")),
		turned(true, edit(11, 2, "\u20ac"), edit(13, 1, "")), turned(false, edit(12, 0, "")), turned(false, edit(11, 1, "")), turned(false, edit(12, 1, "")),
		turned(false, edit(15, 0, "")), turned(false, edit(14, 1, "")), turned(false, edit(0, 15, "")), turned(false, edit(-1, 1, "")), turned(false, edit(1, -1, "")),
		turned(false, edit(0, 0, "\xff")), turned(false, edit(0, 0, "\xc3"), edit(0, 0, "")), turned(false, edit(0, 0, ""), edit(0, 401, "")),
	)
}

// leaseChanges change the Clock and the leases of richDoc.
func leaseChanges() []docChange {
	list := func(valid bool, all ...impl.Lease) docChange {
		return docChange{fmt.Sprint("leases ", all), valid, func(d *impl.Doc) { d.Leases = all }}
	}
	return []docChange{
		{"a clock at which a lease ends", false, func(d *impl.Doc) { d.Clock = 8 }},
		{"the start of time", true, func(d *impl.Doc) { d.Clock = 0 }},
		{"the end of time", false, func(d *impl.Doc) { d.Clock = 1000 }},
		{"the end of time without leases", true, func(d *impl.Doc) { d.Clock, d.Leases = 1000, nil }},
		{"a clock behind the end of time", false, func(d *impl.Doc) { d.Clock, d.Leases = 1001, nil }},
		{"a clock before the start of time", false, func(d *impl.Doc) { d.Clock, d.Leases = -1, nil }},
		list(true), list(true, lease(0, 14, 3, 1000)), list(true, lease(0, 0, 8, 8)), list(true, lease(14, 14, 8, 8)),
		list(false, lease(0, 14, 3, 1001)), list(false, lease(0, 14, 3, 7)), list(false, lease(0, 14, 3, 0)), list(false, lease(0, 14, 0, 8)), list(false, lease(0, 14, 9, 8)),
		list(false, lease(-1, 14, 3, 8)), list(false, lease(0, 15, 3, 8)), list(false, lease(15, 15, 3, 8)), list(false, lease(12, 14, 3, 8)), list(false, lease(0, 12, 3, 8)), list(false, lease(12, 12, 3, 8)), list(false, lease(5, 4, 3, 8)),
		list(false, lease(4, 5, 3, 8), lease(2, 3, 3, 8)), list(false, lease(4, 5, 3, 8), lease(4, 5, 3, 9)), list(true, lease(4, 5, 3, 8), lease(4, 6, 3, 8)),
		list(false, lease(4, 5, 3, 8), lease(4, 5, 4, 8)), list(true, lease(4, 5, 3, 8), lease(5, 6, 4, 8)),
		// The one that has ended is the first, the last, or in the middle; those that overlap are not next to each other.
		list(false, lease(0, 1, 1, 7), lease(1, 2, 1, 8), lease(2, 3, 1, 8)), list(false, lease(0, 1, 1, 8), lease(1, 2, 1, 7), lease(2, 3, 1, 8)), list(false, lease(0, 1, 1, 8), lease(1, 2, 1, 8), lease(2, 3, 1, 7)),
		list(false, lease(0, 9, 1, 8), lease(1, 2, 1, 8), lease(3, 4, 2, 8)), list(true, lease(0, 9, 1, 8), lease(1, 2, 1, 8), lease(3, 4, 1, 8)),
	}
}

func TestDocsThatAreNotValid(t *testing.T) {
	for _, c := range slices.Concat(textChanges(), memberChanges(), leaseChanges()) {
		d := richDoc()
		c.make(&d)
		if !c.valid {
			checkInvalidDoc(t, c.name, d)
			continue
		}
		if !modelDocOk(d) || !impl.DocOk(d) {
			t.Fatalf("%s: %s is not valid", c.name, docText(d))
		}
		checkDocument(t, d)
		for kind := 1; kind <= 16; kind++ {
			checkDocDo(t, d, reqOfKind(kind, 2, 2, "a"), 0)
			checkDocDo(t, d, reqOfKind(kind, 4, 13, "a"), len(d.Log))
		}
	}
}

// numbersOf are all numbers of a document.
func numbersOf(d *impl.Doc) []*int {
	list := []*int{&d.Clock}
	for i := range d.Log {
		c := &d.Log[i]
		list = append(list, &c.Session, &c.Edit.At, &c.Edit.Cut)
	}
	for i := range d.Members {
		m := &d.Members[i]
		list = append(list, &m.Session, &m.Sel.From, &m.Sel.To)
		for k := range m.Stack.Undo {
			list = append(list, &m.Stack.Undo[k].At, &m.Stack.Undo[k].Cut)
		}
		for k := range m.Stack.Redo {
			list = append(list, &m.Stack.Redo[k].At, &m.Stack.Redo[k].Cut)
		}
	}
	for i := range d.Leases {
		l := &d.Leases[i]
		list = append(list, &l.I, &l.J, &l.Session, &l.Till)
	}
	return list
}

// Each number of a document in turn is every small number, a limit, or an extreme.
func TestEveryNumberOfADoc(t *testing.T) {
	t.Parallel()
	numbers := append(append(extremes(), 60, 61, 399, 400, 401, 998, 999, 1000), allNumbers(23)...)
	first := richDoc()
	valid, invalid := 0, 0
	for n := range numbersOf(&first) {
		for _, x := range numbers {
			d := richDoc()
			*numbersOf(&d)[n] = x
			if modelDocOk(d) {
				valid++
				checkDocument(t, d)
			} else {
				invalid++
				checkInvalidDoc(t, fmt.Sprint("number ", n, " is ", x), d)
			}
			for _, r := range []impl.Req{req(impl.ReqInsert, 2, 6, 0, 0, "xy"), req(impl.ReqDelete, 1, 2, 6, 0, ""), req(impl.ReqUndo, 1, 0, 0, 0, ""), req(impl.ReqRedo, 2, 0, 0, 0, ""), req(impl.ReqLock, 4, 8, 14, 5, ""), req(impl.ReqOpen, 3, 0, 0, 0, "")} {
				checkDocDo(t, d, r, 2)
			}
		}
	}
	if valid < 100 || invalid < 1000 {
		t.Errorf("%d documents are valid, and %d are not", valid, invalid)
	}
}

// All requests with small numbers, for a document with leases, stacks and two commits.
func TestAllSmallRequests(t *testing.T) {
	d := docOf("a\u00e9\nb")
	d.Clock = 996
	d.Members = membersOf(1, 2)
	d = mustDo(t, d, req(impl.ReqInsert, 1, 1, 0, 0, "xy"), 0)
	d = mustDo(t, d, req(impl.ReqReplace, 2, 6, 7, 0, "z"), 1)
	d = mustDo(t, d, req(impl.ReqInsert, 2, 0, 0, 0, "q"), 2)
	d = mustDo(t, d, req(impl.ReqUndo, 2, 0, 0, 0, ""), 3)
	d = mustDo(t, d, req(impl.ReqLock, 2, 0, 3, 2, ""), 4)
	d = mustDo(t, d, req(impl.ReqLock, 1, 3, 6, 3, ""), 4)
	d = mustDo(t, d, req(impl.ReqSelect, 1, 5, 3, 0, ""), 4)
	for kind := 1; kind <= 16; kind++ {
		used := usedFields()[kind]
		for a := range 1 + 9*strings.Count(used, "A") {
			for b := range 1 + 9*strings.Count(used, "B") {
				for c := range 1 + 6*strings.Count(used, "C") {
					for _, text := range []string{"", "z", "\n", "q\u00e9"} {
						if text != "" && !strings.ContainsAny(used, "tT") {
							continue
						}
						for session := 1; session <= 2; session++ {
							for _, base := range []int{0, 1, 2, 4} {
								checkDocDo(t, d, req(kind, session, a, b, c, text), base)
							}
						}
					}
				}
			}
		}
	}
}

// codesOf are the codes that a kind can have, by the document.
func codesOf(kind int) []int {
	list := []int{impl.RepFine, impl.RepForm, impl.RepWho}
	switch kind {
	case impl.ReqOpen:
		return []int{impl.RepFine, impl.RepForm, impl.RepTwice}
	case impl.ReqInsert, impl.ReqDelete, impl.ReqReplace:
		return append(list, impl.RepRange, impl.RepLocked, impl.RepFull)
	case impl.ReqUndo, impl.ReqRedo:
		return append(list, impl.RepNone, impl.RepLocked, impl.RepFull)
	case impl.ReqRead, impl.ReqSelect, impl.ReqLine:
		return append(list, impl.RepRange)
	case impl.ReqFind, impl.ReqBack:
		return append(list, impl.RepRange, impl.RepNone)
	case impl.ReqPlace, impl.ReqUnlock:
		return append(list, impl.RepNone)
	case impl.ReqLock:
		return append(list, impl.RepRange, impl.RepClock, impl.RepLocked, impl.RepFull)
	case impl.ReqRenew:
		return append(list, impl.RepClock, impl.RepNone)
	}
	return list
}

// randomKind asks for edits most often, and for members least often.
func randomKind(random *rand.Rand) int {
	kinds := []int{3, 3, 3, 3, 4, 5, 5, 6, 7, 8, 9, 10, 11, 12, 12, 12, 13, 14, 15, 15, 15, 16, 16, 16}
	if random.Intn(20) == 0 {
		return 1 + random.Intn(2)
	}
	return kinds[random.Intn(len(kinds))]
}

// randomSpan has few code points, so that a text is not deleted at once. Now and then its ends are anything.
func randomSpan(random *rand.Rand, text string) (int, int) {
	if random.Intn(12) == 0 {
		return random.Intn(len(text) + 3), random.Intn(len(text) + 3)
	}
	places := wantBoundaries([]byte(text))
	n := random.Intn(len(places))
	return places[n], places[min(n+random.Intn(5), len(places)-1)]
}

func randomPut(random *rand.Rand) string {
	if random.Intn(12) == 0 {
		return strings.Repeat("\u00e9", 30+random.Intn(21))
	}
	return []string{"", "x", "\u00e9", "a\n", "\U0001f642", "abc"}[random.Intn(6)]
}

// randomBase is the version, or a little less, or now and then anything.
func randomBase(random *rand.Rand, d impl.Doc) int {
	if random.Intn(10) == 0 {
		return random.Intn(len(d.Log)+3) - 1
	}
	return len(d.Log) - random.Intn(min(len(d.Log), 4)+1)
}

func randomDocReq(random *rand.Rand, d impl.Doc) (impl.Req, int) {
	base := randomBase(random, d)
	r := req(randomKind(random), 1+random.Intn(4), 0, 0, 0, "")
	text := string(d.Text)
	if r.Kind >= 3 && r.Kind <= 5 && base >= 0 && base <= len(d.Log) {
		text = modelTextAt(d, base)
	}
	used := usedFields()[r.Kind]
	i, j := randomSpan(random, text)
	if r.Kind == impl.ReqPlace {
		i, j = random.Intn(3), random.Intn(8)
	}
	mayHold := r.Kind == impl.ReqRenew || r.Kind == impl.ReqUnlock || r.Kind == impl.ReqLock && random.Intn(8) == 0
	if len(d.Leases) > 0 && mayHold && random.Intn(5) > 0 {
		l := d.Leases[random.Intn(len(d.Leases))]
		i, j, r.Session = l.I, l.J, l.Session
	}
	c := []int{0, 1, 2, 5, 20, 20, 20, 2000}[random.Intn(8)]
	for field, n := range map[string]int{"A": i, "B": j, "C": c} {
		if strings.Contains(used, field) {
			r = withNumber(r, field, n)
		}
	}
	if strings.ContainsAny(used, "tT") {
		r.Text = []byte(randomPut(random))
	}
	if random.Intn(40) == 0 {
		r.C = 70000
	}
	return r, base
}

// checkCommitted asserts what a commit does not touch: the older commits, and the bytes that others have leased.
func checkCommitted(t *testing.T, was impl.Doc, is impl.Doc, session int) {
	t.Helper()
	if n := len(was.Log); len(is.Log) != n+1 || !slices.EqualFunc(is.Log[:n], was.Log, sameCommit) || is.Log[n].Session != session {
		t.Fatalf("a commit of session %d changes the log of %s to %s", session, docText(was), docText(is))
	}
	for _, l := range was.Leases {
		if l.Session == session || l.I == l.J {
			continue
		}
		kept := func(other impl.Lease) bool {
			return other.Session == l.Session && other.Till == l.Till && bytes.Equal(is.Text[other.I:other.J], was.Text[l.I:l.J])
		}
		if !slices.ContainsFunc(is.Leases, kept) {
			t.Fatalf("a commit of session %d changes what %v holds: %s becomes %s", session, l, docText(was), docText(is))
		}
	}
}

// startOfAWalk is near one limit or another: of the text, of the Log, of the leases, or of time.
func startOfAWalk(random *rand.Rand, n int) impl.Doc {
	d := docOf(textOf(randomRope(random, 40)))
	if n%3 == 0 {
		d = docOf(strings.Repeat("a\u00e9\n", 95))
	}
	d.Clock = []int{0, 500, 960}[n%3]
	if n%4 < 2 {
		d.Log = noCommits(40)
	}
	if n%5 == 0 {
		d = docOf(strings.Repeat("abc\n", 20))
		d.Leases = rowOfLeases(11, always(60))
	}
	d.Members = membersOf(1, 2, 3)
	return d
}

func TestRandomWalksOfDocs(t *testing.T) {
	t.Parallel()
	random := rand.New(rand.NewSource(101))
	done := map[[2]int]int{}
	for n := range 60 {
		d := startOfAWalk(random, n)
		for range 110 {
			d = docAfter(t, random, d, done)
		}
		checkDocument(t, d)
	}
	for kind := 1; kind <= 16; kind++ {
		for _, code := range codesOf(kind) {
			if done[[2]int{kind, code}] == 0 {
				t.Errorf("kind %d has never had the code %d", kind, code)
			}
			delete(done, [2]int{kind, code})
		}
	}
	if len(done) > 0 {
		t.Errorf("kinds have had other codes: %v", done)
	}
}

// docAfter executes a random request or a tick, and counts the codes of the requests.
func docAfter(t *testing.T, random *rand.Rand, d impl.Doc, done map[[2]int]int) impl.Doc {
	t.Helper()
	if random.Intn(8) == 0 {
		n := 1 + random.Intn(3)
		checkTick(t, d, n)
		d, _ = impl.DocTick(d, n)
		return d
	}
	r, base := randomDocReq(random, d)
	next, told := checkDocDo(t, d, r, base)
	if r.Kind >= 1 && r.Kind <= 16 {
		done[[2]int{r.Kind, told.Code}]++
	}
	if told.Code == impl.RepFine && len(next.Log) > len(d.Log) {
		checkCommitted(t, d, next, r.Session)
	}
	if told.Code == impl.RepFine && r.Kind >= 3 && r.Kind <= 5 {
		checkUndoRestoresAfter(t, d, next, r.Session)
		checkCommittedAsPlanned(t, d, next, r, base)
	}
	return next
}

// checkUndoRestoresAfter undoes and redoes the last edit, as far as the Log has room.
func checkUndoRestoresAfter(t *testing.T, was impl.Doc, is impl.Doc, session int) {
	t.Helper()
	if len(is.Log) > 58 {
		return
	}
	undone, told := impl.DocDo(is, req(impl.ReqUndo, session, 0, 0, 0, ""), 0)
	redone, again := impl.DocDo(undone, req(impl.ReqRedo, session, 0, 0, 0, ""), 0)
	// No lease of another session can bar them: it would have barred the edit.
	if told.Code != impl.RepFine || again.Code != impl.RepFine {
		t.Fatalf("the undo of %s replies %s, and the redo %s", docText(is), replyText(told), replyText(again))
	}
	if !bytes.Equal(undone.Text, was.Text) || !bytes.Equal(redone.Text, is.Text) {
		t.Fatalf("the undo of %s leaves %s, and the redo %s", docText(is), docText(undone), docText(redone))
	}
}

// checkCommittedAsPlanned asserts that the edit is what the later commits make of the one that was meant.
func checkCommittedAsPlanned(t *testing.T, was impl.Doc, is impl.Doc, r impl.Req, base int) {
	t.Helper()
	e := edit(r.A, 0, string(r.Text))
	if r.Kind != impl.ReqInsert {
		e.Cut = r.B - r.A
	}
	later, _ := impl.DocSince(was, base)
	moved, _ := impl.EditMoves(e, later)
	if last := is.Log[len(is.Log)-1]; !sameEdit(last.Edit, moved) || last.Session != r.Session {
		t.Fatalf("%s with base %d commits %s, not %s", reqText(r), base, commitTexts(is.Log[len(was.Log):]), editText(moved))
	}
}

// memory is what one slice has, its spare capacity included.
type memory struct {
	from, to uintptr
	what     string
}

// memoryOf returns the memory of all slices in v that have any.
func memoryOf(v reflect.Value, what string) []memory {
	var all []memory
	switch v.Kind() {
	case reflect.Slice:
		if size := uintptr(v.Cap()) * v.Type().Elem().Size(); size > 0 {
			all = append(all, memory{v.Pointer(), v.Pointer() + size, what})
		}
		for i := range v.Len() {
			all = append(all, memoryOf(v.Index(i), fmt.Sprint(what, "[", i, "]"))...)
		}
	case reflect.Struct:
		for i := range v.NumField() {
			all = append(all, memoryOf(v.Field(i), what+"."+v.Type().Field(i).Name)...)
		}
	}
	return all
}

// wholeText shows a value with the spare capacity of all slices.
func wholeText(v reflect.Value) string {
	switch v.Kind() {
	case reflect.Slice:
		text := "["
		for i := range v.Cap() {
			text += wholeText(v.Slice(0, v.Cap()).Index(i)) + " "
		}
		return text + "]"
	case reflect.Struct:
		text := "{"
		for i := range v.NumField() {
			text += wholeText(v.Field(i)) + " "
		}
		return text + "}"
	}
	return fmt.Sprint(v.Interface())
}

// roomy copies a value, with other elements behind the end of every slice.
func roomy(v reflect.Value) reflect.Value {
	out := reflect.New(v.Type()).Elem()
	switch v.Kind() {
	case reflect.Slice:
		for i := range v.Len() {
			out.Set(reflect.Append(out, roomy(v.Index(i))))
		}
		for i := range min(2, v.Len()) {
			out.Set(reflect.Append(out, roomy(v.Index(i))))
		}
		out.Set(reflect.Append(out, reflect.Zero(v.Type().Elem())))
		return out.Slice(0, v.Len())
	case reflect.Struct:
		for i := range v.NumField() {
			out.Field(i).Set(roomy(v.Field(i)))
		}
		return out
	}
	return v
}

// docResult is all that a function returns.
type docResult struct {
	Doc    impl.Doc
	Reply  impl.Reply
	Text   []byte
	Edits  []impl.Edit
	Member impl.Member
	Code   int
}

func docResultText(x docResult) string {
	return fmt.Sprintf("%s; %s; %q; %s; %s; %d", docText(x.Doc), replyText(x.Reply), x.Text, editTexts(x.Edits), memberText(x.Member), x.Code)
}

// docCalls are all functions that return memory.
func docCalls() map[string]func(d impl.Doc, r impl.Req, n int) docResult {
	return map[string]func(d impl.Doc, r impl.Req, n int) docResult{
		"DocNew": func(d impl.Doc, r impl.Req, n int) docResult {
			got, _ := impl.DocNew(d.Text)
			return docResult{Doc: got}
		},
		"DocAt": func(d impl.Doc, r impl.Req, n int) docResult {
			got, _ := impl.DocAt(d, n)
			return docResult{Text: got}
		},
		"DocSince": func(d impl.Doc, r impl.Req, n int) docResult {
			got, _ := impl.DocSince(d, n)
			return docResult{Edits: got}
		},
		"DocPlan": func(d impl.Doc, r impl.Req, n int) docResult {
			got, code := impl.DocPlan(d, r, n)
			return docResult{Edits: edits(got), Code: code}
		},
		"DocDo": func(d impl.Doc, r impl.Req, n int) docResult {
			got, told := impl.DocDo(d, r, n)
			return docResult{Doc: got, Reply: told}
		},
		"DocTick": func(d impl.Doc, r impl.Req, n int) docResult {
			got, _ := impl.DocTick(d, n)
			return docResult{Doc: got}
		},
		"DocMember": func(d impl.Doc, r impl.Req, n int) docResult {
			got, _ := impl.DocMember(d, n)
			return docResult{Member: got}
		},
		"DocOk": func(d impl.Doc, r impl.Req, n int) docResult {
			return docResult{Code: map[bool]int{true: 1}[impl.DocOk(d)]}
		},
	}
}

// checkOwnDoc asserts that a call reads nothing behind its arguments, changes none of them, and returns memory of its own.
func checkOwnDoc(t *testing.T, name string, d impl.Doc, r impl.Req, n int, call func(d impl.Doc, r impl.Req, n int) docResult) {
	t.Helper()
	want := docResultText(call(d, r, n))
	wideDoc, wideReq := roomy(reflect.ValueOf(d)), roomy(reflect.ValueOf(r))
	before := wholeText(wideDoc) + wholeText(wideReq)
	got := call(wideDoc.Interface().(impl.Doc), wideReq.Interface().(impl.Req), n)
	if docResultText(got) != want {
		t.Fatalf("%s returns %s with more behind its arguments, and %s without", name, docResultText(got), want)
	}
	if after := wholeText(wideDoc) + wholeText(wideReq); after != before {
		t.Fatalf("%s: its arguments %s became %s", name, before, after)
	}
	results := memoryOf(reflect.ValueOf(got), "result")
	all := slices.Concat(results, memoryOf(wideDoc, "document"), memoryOf(wideReq, "request"))
	for i, a := range results {
		for _, b := range all[i+1:] {
			if a.from < b.to && b.from < a.to {
				t.Fatalf("%s of %s; %s; %d: %s and %s share memory", name, docText(d), reqText(r), n, a.what, b.what)
			}
		}
	}
}

func TestDocsShareNoMemory(t *testing.T) {
	t.Parallel()
	rich, invalid := richDoc(), richDoc()
	invalid.Clock = 8
	opened := docOf("a\u00e9\nb")
	opened.Members = membersOf(1, 2)
	edited := mustDo(t, opened, req(impl.ReqInsert, 2, 1, 0, 0, "xyz"), 0)
	for name, call := range docCalls() {
		for _, d := range []impl.Doc{{}, opened, edited, rich, invalid} {
			for kind := 0; kind <= 16; kind++ {
				for _, r := range []impl.Req{reqOfKind(kind, 2, 1, "ab\u00e9"), reqOfKind(kind, 2, 0, "a"), reqOfKind(kind, 7, 0, "ab"), reqOfKind(kind, 4, 13, "x"), withNumber(reqOfKind(kind, 2, 6, "yz"), "B", 8), req(kind, 1, 2, 4, 5, "h")} {
					for _, n := range []int{0, 1, 3, 4} {
						checkOwnDoc(t, name, d, r, n, call)
					}
				}
			}
		}
	}
}

// Every request of a random walk leaves the document that it was given as it was.
func TestDocsAreNotModified(t *testing.T) {
	t.Parallel()
	random := rand.New(rand.NewSource(102))
	for range 10 {
		d := docOf(textOf(randomRope(random, 60)))
		d.Members = membersOf(1, 2, 3)
		for range 40 {
			r, base := randomDocReq(random, d)
			for name, call := range docCalls() {
				checkOwnDoc(t, name, d, r, base, call)
			}
			d, _ = impl.DocDo(d, r, base)
		}
	}
}
