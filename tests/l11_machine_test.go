package tests

import (
	"bytes"
	"fmt"
	"math"
	"math/rand"
	"reflect"
	"slices"
	"strings"
	"testing"

	"loop.example/g00677/impl"
)

// frame is the event that brings a request, whether or not it is valid.
func frame(r impl.Req) impl.Event {
	return impl.Event{Kind: impl.EvFrame, Data: rawReq(r)}
}

func frameOf(data string) impl.Event {
	return impl.Event{Kind: impl.EvFrame, Data: []byte(data)}
}

func pick(session int) impl.Event {
	return impl.Event{Kind: impl.EvPick, Session: session}
}

// picks is a sequence of sessions.
func picks(sessions ...int) []impl.Event {
	var list []impl.Event
	for _, session := range sessions {
		list = append(list, pick(session))
	}
	return list
}

func tick(n int) impl.Event {
	return impl.Event{Kind: impl.EvTick, N: n}
}

// newOp is an op that was never picked.
func newOp(r impl.Req) impl.Op {
	return impl.Op{Req: r}
}

func opAt(stage int, r impl.Req, first int, base int, tries int, e impl.Edit) impl.Op {
	return impl.Op{Req: r, Stage: stage, First: first, Base: base, Tries: tries, Edit: e}
}

func machOf(d impl.Doc, ops ...impl.Op) impl.Mach {
	return impl.Mach{Doc: d, Ops: ops}
}

func outOf(r impl.Req, first int, told impl.Reply) impl.Out {
	return impl.Out{Session: r.Session, Req: r, First: first, Reply: told}
}

func at(n int, out impl.Out) impl.Out {
	out.At = n
	return out
}

func sameOp(a impl.Op, b impl.Op) bool {
	return sameReq(a.Req, b.Req) && a.Stage == b.Stage && a.First == b.First && a.Base == b.Base && a.Tries == b.Tries && sameEdit(a.Edit, b.Edit)
}

func sameMach(a impl.Mach, b impl.Mach) bool {
	return sameDoc(a.Doc, b.Doc) && slices.EqualFunc(a.Ops, b.Ops, sameOp)
}

func sameOut(a impl.Out, b impl.Out) bool {
	return a.At == b.At && a.Session == b.Session && sameReq(a.Req, b.Req) && a.First == b.First && sameReply(a.Reply, b.Reply)
}

func opText(o impl.Op) string {
	return fmt.Sprintf("{%s stage %d first %d base %d tries %d %s}", reqText(o.Req), o.Stage, o.First, o.Base, o.Tries, editText(o.Edit))
}

func machText(m impl.Mach) string {
	var all []string
	for _, o := range m.Ops {
		all = append(all, opText(o))
	}
	return docText(m.Doc) + " ops [" + strings.Join(all, ", ") + "]"
}

func eventText(e impl.Event) string {
	return fmt.Sprintf("{kind %d session %d n %d data %x}", e.Kind, e.Session, e.N, e.Data)
}

func outText(o impl.Out) string {
	return fmt.Sprintf("{at %d session %d %s first %d %s}", o.At, o.Session, reqText(o.Req), o.First, replyText(o.Reply))
}

func outTexts(list []impl.Out) string {
	var all []string
	for _, o := range list {
		all = append(all, outText(o))
	}
	return strings.Join(all, "\n")
}

func modelEvent(e impl.Event) bool {
	data := len(e.Data)
	switch e.Kind {
	case 1:
		return data <= 1000 && e.Session == 0 && e.N == 0
	case 2:
		return data == 0 && e.Session >= 1 && e.Session <= 8 && e.N == 0
	case 3:
		return data == 0 && e.Session == 0 && e.N >= 1 && e.N <= 1000
	}
	return false
}

func modelPending(list []impl.Op, session int) (impl.Op, bool) {
	for _, o := range list {
		if o.Req.Session == session {
			return o, true
		}
	}
	return impl.Op{}, false
}

// modelOps replaces the op of a session, if it has one, by another one, or by none.
func modelOps(list []impl.Op, session int, by ...impl.Op) []impl.Op {
	var all []impl.Op
	for s := 1; s <= 8; s++ {
		o, pending := modelPending(list, s)
		switch {
		case s == session:
			all = append(all, by...)
		case pending:
			all = append(all, o)
		}
	}
	return all
}

// modelEdited reports whether an op that has been picked has the edit that it must have. Of the document as it was, only the texts matter.
func modelEdited(d impl.Doc, o impl.Op) bool {
	if o.First < 0 || o.Base < o.First || len(d.Log) < o.Base || modelMember(d, o.Req.Session) < 0 {
		return false
	}
	was := impl.Doc{Start: d.Start, Text: []byte(modelTextAt(d, o.Base)), Log: d.Log[:o.Base], Members: membersOf(o.Req.Session)}
	e, code := modelPlan(was, o.Req, o.First)
	return code == 0 && sameEdit(e, o.Edit)
}

func modelMachOk(m impl.Mach) bool {
	if !modelDocOk(m.Doc) {
		return false
	}
	for i, o := range m.Ops {
		if !modelReq(o.Req) || i > 0 && o.Req.Session <= m.Ops[i-1].Req.Session {
			return false
		}
		fresh := sameOp(o, impl.Op{Req: o.Req})
		begun := (o.Stage == 1 || o.Stage == 2) && o.Tries >= 0 && o.Tries <= 7
		if !fresh && !(begun && modelEdited(m.Doc, o)) {
			return false
		}
	}
	return true
}

func modelIdle(m impl.Mach) []int {
	var idle []int
	if !modelMachOk(m) {
		return nil
	}
	for _, member := range m.Doc.Members {
		if _, pending := modelPending(m.Ops, member.Session); !pending {
			idle = append(idle, member.Session)
		}
	}
	return idle
}

// modelNext is meant for a valid machine and a valid event.
func modelNext(m impl.Mach, e impl.Event) (impl.Mach, impl.Out, bool) {
	if e.Kind == 3 {
		m.Doc, _ = modelTick(m.Doc, e.N)
		return m, impl.Out{}, false
	}
	if e.Kind == 2 {
		if o, pending := modelPending(m.Ops, e.Session); pending {
			return modelPick(m, o)
		}
		return m, impl.Out{}, false
	}
	r, ok := modelParse(e.Data)
	if !ok {
		return m, impl.Out{Reply: impl.Reply{Code: 1}}, true
	}
	if _, pending := modelPending(m.Ops, r.Session); pending {
		return m, outOf(r, 0, impl.Reply{Code: 10}), true
	}
	m.Ops = modelOps(m.Ops, r.Session, newOp(r))
	return m, impl.Out{}, false
}

func modelPick(m impl.Mach, o impl.Op) (impl.Mach, impl.Out, bool) {
	session, now := o.Req.Session, len(m.Doc.Log)
	edits := o.Req.Kind >= 3 && o.Req.Kind <= 5
	rest := modelOps(m.Ops, session)
	switch {
	case o.Stage == 0 && !edits:
		d, told := modelDocDo(m.Doc, o.Req, now)
		return machOf(d, rest...), outOf(o.Req, now, told), true
	case o.Stage == 0:
		e, code := modelPlan(m.Doc, o.Req, now)
		if code != 0 {
			return machOf(m.Doc, rest...), outOf(o.Req, now, impl.Reply{Code: code}), true
		}
		o = opAt(1, o.Req, now, now, 0, e)
	case o.Base == now && o.Stage == 1:
		o.Stage = 2
	case o.Base == now:
		d, told := modelDocDo(m.Doc, o.Req, o.First)
		return machOf(d, rest...), outOf(o.Req, o.First, told), true
	case o.Tries == 7:
		return machOf(m.Doc, rest...), outOf(o.Req, 0, impl.Reply{Code: 9}), true
	default:
		e, _ := modelMoves(o.Edit, modelEdits(m.Doc.Log[o.Base:]))
		o = opAt(1, o.Req, o.First, now, o.Tries+1, e)
	}
	return machOf(m.Doc, modelOps(m.Ops, session, o)...), impl.Out{}, false
}

func modelRun(text string, list []impl.Event) (impl.Mach, []impl.Out, bool) {
	if !isText([]byte(text)) || len(list) > 300 {
		return impl.Mach{}, nil, false
	}
	m := machOf(docOf(text))
	var all []impl.Out
	for i, e := range list {
		if !modelEvent(e) {
			return impl.Mach{}, nil, false
		}
		next, out, told := modelNext(m, e)
		if told {
			all = append(all, at(i, out))
		}
		m = next
	}
	return m, all, true
}

// checkMachOk asserts whether a machine is valid, and compares everything that only looks at it with the model.
func checkMachOk(t *testing.T, m impl.Mach, want bool) {
	t.Helper()
	if modelMachOk(m) != want {
		t.Fatalf("the model of %s is wrong", machText(m))
	}
	if got := impl.MachOk(m); got != want {
		t.Fatalf("MachOk of %s is %v", machText(m), got)
	}
	if got := impl.MachIdle(m); !slices.Equal(got, modelIdle(m)) {
		t.Fatalf("MachIdle of %s is %v, not %v", machText(m), got, modelIdle(m))
	}
	for _, session := range append(allNumbers(10), extremes()...) {
		var wantOp impl.Op
		there := false
		if want {
			wantOp, there = modelPending(m.Ops, session)
		}
		if got, ok := impl.MachOp(m, session); ok != there || !sameOp(got, wantOp) {
			t.Fatalf("MachOp(%s; %d) = %s, %v, want %s, %v", machText(m), session, opText(got), ok, opText(wantOp), there)
		}
	}
}

// checkStep compares MachStep with the model, and asserts that an event leaves a valid machine valid.
func checkStep(t *testing.T, m impl.Mach, e impl.Event) (impl.Mach, impl.Out, bool) {
	t.Helper()
	var want impl.Mach
	var wantOut impl.Out
	wantTold, valid := false, modelMachOk(m)
	if valid && modelEvent(e) {
		want, wantOut, wantTold = modelNext(m, e)
	}
	got, out, told := impl.MachStep(m, e)
	if told != wantTold || !sameOut(out, wantOut) || !sameMach(got, want) {
		t.Fatalf("MachStep(%s; %s)\n= %s; %s, %v,\nwant %s; %s, %v", machText(m), eventText(e), machText(got), outText(out), told, machText(want), outText(wantOut), wantTold)
	}
	if valid && !impl.MachOk(got) {
		t.Fatalf("MachStep(%s; %s) leaves %s, which is not valid", machText(m), eventText(e), machText(got))
	}
	return got, out, told
}

// checkQuiet asserts what an event leaves that has no output.
func checkQuiet(t *testing.T, m impl.Mach, e impl.Event, want impl.Mach) impl.Mach {
	t.Helper()
	checkMachOk(t, m, true)
	next, out, told := checkStep(t, m, e)
	if told || !sameOut(out, impl.Out{}) || !sameMach(next, want) {
		t.Fatalf("MachStep(%s; %s)\n= %s; %s, %v,\nwant %s", machText(m), eventText(e), machText(next), outText(out), told, machText(want))
	}
	return next
}

// checkTold asserts what an event leaves, and its output.
func checkTold(t *testing.T, m impl.Mach, e impl.Event, want impl.Mach, wantOut impl.Out) impl.Mach {
	t.Helper()
	checkMachOk(t, m, true)
	next, out, told := checkStep(t, m, e)
	if !told || !sameOut(out, wantOut) || !sameMach(next, want) {
		t.Fatalf("MachStep(%s; %s)\n= %s; %s, %v,\nwant %s; %s", machText(m), eventText(e), machText(next), outText(out), told, machText(want), outText(wantOut))
	}
	return next
}

// checkRun compares MachRun with the model and with steps one by one, and asserts the promises for all of these.
func checkRun(t *testing.T, text string, list []impl.Event) (impl.Mach, []impl.Out) {
	t.Helper()
	want, wantOuts, wantOk := modelRun(text, list)
	got, outs, ok := impl.MachRun([]byte(text), list)
	if ok != wantOk || !sameMach(got, want) || !slices.EqualFunc(outs, wantOuts, sameOut) {
		t.Fatalf("MachRun(%q; %d events) = %s;\n%s\n%v, want %s;\n%s\n%v", text, len(list), machText(got), outTexts(outs), ok, machText(want), outTexts(wantOuts), wantOk)
	}
	if !ok {
		return got, outs
	}
	f := newFollower(machOf(docOf(text)))
	for _, e := range list {
		f.step(t, e)
	}
	if !sameMach(f.m, got) || !slices.EqualFunc(f.told, outs, sameOut) {
		t.Fatalf("MachRun(%q; %d events) = %s;\n%s\nbut the steps leave %s;\n%s", text, len(list), machText(got), outTexts(outs), machText(f.m), outTexts(f.told))
	}
	return got, outs
}

// checkNoRun asserts that MachRun returns nothing.
func checkNoRun(t *testing.T, what string, text string, list []impl.Event) {
	t.Helper()
	if m, outs, ok := impl.MachRun([]byte(text), list); ok || len(outs) > 0 || !sameMach(m, impl.Mach{}) {
		t.Fatalf("%s: MachRun returns %s;\n%s\n%v", what, machText(m), outTexts(outs), ok)
	}
	checkRun(t, text, list)
}

// wait is how often a session was picked since its request arrived, and the version at that time.
type wait struct {
	picked, since int
}

// follower makes steps, and asserts the promises that are about all of them.
type follower struct {
	m impl.Mach
	// What the ticks and the answered requests alone make of the document.
	atomic impl.Doc
	waits  map[int]wait
	seen   int
	told   []impl.Out
}

func newFollower(m impl.Mach) *follower {
	return &follower{m: m, atomic: m.Doc, waits: map[int]wait{}}
}

func (f *follower) step(t *testing.T, e impl.Event) (impl.Out, bool) {
	t.Helper()
	was := f.m
	next, out, told := checkStep(t, was, e)
	f.m = next
	f.checkAtomic(t, e, out, told)
	f.checkWaits(t, was, e, told)
	checkCommittedAsMoved(t, was, next, e, out, told)
	if told {
		f.told = append(f.told, at(f.seen, out))
	}
	f.seen++
	return out, told
}

// checkAtomic asserts promise 1: the same document and the same reply as if the request were executed at its answer.
func (f *follower) checkAtomic(t *testing.T, e impl.Event, out impl.Out, told bool) {
	t.Helper()
	if e.Kind == impl.EvTick {
		f.atomic, _ = impl.DocTick(f.atomic, e.N)
	}
	code := out.Reply.Code
	if told && code != impl.RepForm && code != impl.RepLate && code != impl.RepBusy {
		d, again := impl.DocDo(f.atomic, out.Req, out.First)
		if !sameReply(again, out.Reply) {
			t.Fatalf("%s was answered, but executed at once it is answered %s", outText(out), replyText(again))
		}
		f.atomic = d
	}
	if !sameDoc(f.atomic, f.m.Doc) {
		t.Fatalf("the answered requests leave %s, but the machine has %s", docText(f.atomic), docText(f.m.Doc))
	}
}

// checkWaits asserts promise 13: what is pending is answered after three picks, and two more for each commit in the meantime.
func (f *follower) checkWaits(t *testing.T, was impl.Mach, e impl.Event, told bool) {
	t.Helper()
	r, ok := modelParse(e.Data)
	if e.Kind == impl.EvFrame && ok && !told {
		f.waits[r.Session] = wait{since: len(was.Doc.Log)}
	}
	w, pending := f.waits[e.Session]
	if e.Kind != impl.EvPick || !pending {
		return
	}
	w.picked++
	most := 3 + 2*(len(was.Doc.Log)-w.since)
	if w.picked > most || w.picked == most && !told {
		t.Fatalf("the request of session %d was picked %d times, with %d commits: %s", e.Session, w.picked, len(was.Doc.Log)-w.since, machText(f.m))
	}
	f.waits[e.Session] = w
	if told {
		delete(f.waits, e.Session)
	}
}

// checkCommittedAsMoved asserts that a commit adds the edit that was transformed step by step, and that nothing else commits one.
func checkCommittedAsMoved(t *testing.T, was impl.Mach, is impl.Mach, e impl.Event, out impl.Out, told bool) {
	t.Helper()
	n := len(was.Doc.Log)
	o, _ := modelPending(was.Ops, e.Session)
	if told && out.Reply.Code == impl.RepFine && o.Stage == 2 {
		if last := is.Doc.Log[n]; len(is.Doc.Log) != n+1 || last.Session != e.Session || !sameEdit(last.Edit, o.Edit) {
			t.Fatalf("%s commits %s", opText(o), commitTexts(is.Doc.Log[n:]))
		}
		checkCommitted(t, was.Doc, is.Doc, e.Session)
		return
	}
	turns := told && out.Reply.Code == impl.RepFine && (out.Req.Kind == impl.ReqUndo || out.Req.Kind == impl.ReqRedo)
	if !turns && !slices.EqualFunc(is.Doc.Log, was.Doc.Log, sameCommit) {
		t.Fatalf("%s changes the log of %s to %s", eventText(e), machText(was), machText(is))
	}
}

// steps follows the events from a valid machine on, and returns what they leave.
func steps(t *testing.T, m impl.Mach, list ...impl.Event) (impl.Mach, []impl.Out) {
	t.Helper()
	checkMachOk(t, m, true)
	f := newFollower(m)
	for _, e := range list {
		f.step(t, e)
	}
	checkMachOk(t, f.m, true)
	return f.m, f.told
}

// stepsTo asserts the outputs, too.
func stepsTo(t *testing.T, m impl.Mach, list []impl.Event, want ...impl.Out) impl.Mach {
	t.Helper()
	next, got := steps(t, m, list...)
	if !slices.EqualFunc(got, want, sameOut) {
		t.Fatalf("%s is told\n%s\nnot\n%s", machText(m), outTexts(got), outTexts(want))
	}
	return next
}

// edited is the document after commits of a session, each of them executed at once.
func edited(t *testing.T, d impl.Doc, session int, list ...impl.Edit) impl.Doc {
	t.Helper()
	for _, e := range list {
		d = mustDo(t, d, replacing(session, e), len(d.Log))
	}
	return d
}

// room has three members and a text.
func room(text string) impl.Doc {
	d := docOf(text)
	d.Members = membersOf(1, 2, 3)
	return d
}

func checkLeft(t *testing.T, m impl.Mach, want string, version int) {
	t.Helper()
	if string(m.Doc.Text) != want || len(m.Doc.Log) != version {
		t.Fatalf("the text is %q, version %d, not %q, %d", m.Doc.Text, len(m.Doc.Log), want, version)
	}
}

func TestMachExample(t *testing.T) {
	m, ok := impl.MachNew([]byte("ab"))
	if !ok || !sameMach(m, machOf(docOf("ab"))) {
		t.Fatalf("MachNew %s, %v", machText(m), ok)
	}
	open1, open2 := req(impl.ReqOpen, 1, 0, 0, 0, ""), req(impl.ReqOpen, 2, 0, 0, 0, "")
	put1, put2 := req(impl.ReqInsert, 1, 1, 0, 0, "X"), req(impl.ReqInsert, 2, 1, 0, 0, "Y")
	d := docOf("ab")
	m = checkQuiet(t, m, frame(open1), machOf(d, newOp(open1)))
	d.Members = membersOf(1)
	m = checkTold(t, m, pick(1), machOf(d), outOf(open1, 0, impl.Reply{}))
	m = checkQuiet(t, m, frame(open2), machOf(d, newOp(open2)))
	d.Members = membersOf(1, 2)
	m = checkTold(t, m, pick(2), machOf(d), outOf(open2, 0, impl.Reply{}))
	m = checkQuiet(t, m, frame(put1), machOf(d, newOp(put1)))
	m = checkQuiet(t, m, frame(put2), machOf(d, newOp(put1), newOp(put2)))
	x, y := edit(1, 0, "X"), edit(1, 0, "Y")
	m = checkQuiet(t, m, pick(1), machOf(d, opAt(1, put1, 0, 0, 0, x), newOp(put2)))
	m = checkQuiet(t, m, pick(2), machOf(d, opAt(1, put1, 0, 0, 0, x), opAt(1, put2, 0, 0, 0, y)))
	m = checkQuiet(t, m, pick(1), machOf(d, opAt(2, put1, 0, 0, 0, x), opAt(1, put2, 0, 0, 0, y)))
	m = checkQuiet(t, m, pick(2), machOf(d, opAt(2, put1, 0, 0, 0, x), opAt(2, put2, 0, 0, 0, y)))
	d.Text, d.Log = []byte("aXb"), commits(commit(1, 1, 0, "X"))
	d.Members = members(member(1, 0, 0, stack(edits(edit(1, 1, "")), nil)), member(2, 0, 0, impl.Stack{}))
	m = checkTold(t, m, pick(1), machOf(d, opAt(2, put2, 0, 0, 0, y)), outOf(put1, 0, reply(0, 1, 1, "")))
	y = edit(2, 0, "Y")
	m = checkQuiet(t, m, pick(2), machOf(d, opAt(1, put2, 0, 1, 1, y)))
	m = checkQuiet(t, m, pick(2), machOf(d, opAt(2, put2, 0, 1, 1, y)))
	d.Text, d.Log = []byte("aXYb"), commits(commit(1, 1, 0, "X"), commit(2, 2, 0, "Y"))
	d.Members = members(member(1, 0, 0, stack(edits(edit(1, 1, "")), nil)), member(2, 0, 0, stack(edits(edit(2, 1, "")), nil)))
	m = checkTold(t, m, pick(2), machOf(d), outOf(put2, 0, reply(0, 2, 2, "")))
	list := append([]impl.Event{frame(open1), pick(1), frame(open2), pick(2), frame(put1), frame(put2)}, picks(1, 2, 1, 2, 1, 2, 2, 2)...)
	last, outs := checkRun(t, "ab", list)
	want := []impl.Out{at(1, outOf(open1, 0, impl.Reply{})), at(3, outOf(open2, 0, impl.Reply{})), at(10, outOf(put1, 0, reply(0, 1, 1, ""))), at(13, outOf(put2, 0, reply(0, 2, 2, "")))}
	if !sameMach(last, m) || !slices.EqualFunc(outs, want, sameOut) {
		t.Errorf("the run leaves %s;\n%s", machText(last), outTexts(outs))
	}
	if impl.MaxTries != 8 || impl.MaxEvents != 300 || impl.EvFrame != 1 || impl.EvPick != 2 || impl.EvTick != 3 {
		t.Error("a constant is wrong")
	}
}

func TestNewMachines(t *testing.T) {
	for _, text := range []string{"", "a", "a\u00e9\u20ac\U0001f642\n", "\x00", strings.Repeat("a", 399), strings.Repeat("\u00e9", 200), strings.Repeat("a", 400)} {
		m, ok := impl.MachNew([]byte(text))
		if !ok || !sameMach(m, machOf(docOf(text))) {
			t.Errorf("MachNew(%q) = %s, %v", text, machText(m), ok)
		}
		checkMachOk(t, m, true)
		checkRun(t, text, nil)
		checkRun(t, text, []impl.Event{frame(req(impl.ReqOpen, 8, 0, 0, 0, "")), pick(8)})
	}
	for _, text := range wrongTexts() {
		if m, ok := impl.MachNew([]byte(text)); ok || !sameMach(m, impl.Mach{}) {
			t.Errorf("MachNew(%q) = %s, %v", text, machText(m), ok)
		}
		checkNoRun(t, "no text", text, nil)
		checkNoRun(t, "no text", text, []impl.Event{tick(1)})
	}
	if m, ok := impl.MachNew(nil); !ok || !sameMach(m, impl.Mach{}) {
		t.Errorf("MachNew of nothing is %s, %v", machText(m), ok)
	}
	checkMachOk(t, impl.Mach{}, true)
}

func checkEventIs(t *testing.T, e impl.Event, want bool) {
	t.Helper()
	if modelEvent(e) != want {
		t.Fatalf("the model of %s is wrong", eventText(e))
	}
	if got := impl.EventOk(e); got != want {
		t.Fatalf("EventOk of %s is %v", eventText(e), got)
	}
	m := machOf(room("ab"), newOp(req(impl.ReqLine, 1, 0, 0, 0, "")), newOp(req(impl.ReqOpen, 8, 0, 0, 0, "")))
	checkStep(t, m, e)
	if next, out, told := impl.MachStep(m, e); !want && (told || !sameOut(out, impl.Out{}) || !sameMach(next, impl.Mach{})) {
		t.Fatalf("MachStep of %s is %s; %s, %v", eventText(e), machText(next), outText(out), told)
	}
	if _, _, ok := impl.MachRun([]byte("ab"), []impl.Event{e}); ok != want {
		t.Fatalf("MachRun of %s is %v", eventText(e), ok)
	}
}

func TestEvents(t *testing.T) {
	for _, n := range []int{0, 1, 9, 109, 110, 999, 1000} {
		checkEventIs(t, frameOf(strings.Repeat("a", n)), true)
		checkEventIs(t, frameOf(strings.Repeat("\xff", n)), true)
	}
	checkEventIs(t, frameOf(strings.Repeat("a", 1001)), false)
	checkEventIs(t, frameOf(strings.Repeat("a", 4000)), false)
	checkEventIs(t, impl.Event{Kind: impl.EvFrame}, true)
	for session := 1; session <= 8; session++ {
		checkEventIs(t, pick(session), true)
	}
	for _, session := range append(extremes(), 0, 9, 256, 257) {
		checkEventIs(t, pick(session), false)
	}
	for _, n := range []int{1, 2, 8, 999, 1000} {
		checkEventIs(t, tick(n), true)
	}
	for _, n := range append(extremes(), 0) {
		checkEventIs(t, tick(n), false)
	}
	// What a kind does not use.
	for _, n := range append(extremes(), 1, 2, 8, 1000) {
		checkEventIs(t, impl.Event{Kind: impl.EvFrame, Session: n, Data: []byte("a")}, false)
		checkEventIs(t, impl.Event{Kind: impl.EvFrame, N: n, Data: []byte("a")}, false)
		checkEventIs(t, impl.Event{Kind: impl.EvFrame, Session: n}, false)
		checkEventIs(t, impl.Event{Kind: impl.EvPick, Session: 1, N: n}, false)
		checkEventIs(t, impl.Event{Kind: impl.EvTick, Session: n, N: 1}, false)
	}
	for _, data := range [][]byte{{0}, {1}, rawReq(leastReq(impl.ReqOpen)), bytes.Repeat([]byte{7}, 1000)} {
		checkEventIs(t, impl.Event{Kind: impl.EvPick, Session: 1, Data: data}, false)
		checkEventIs(t, impl.Event{Kind: impl.EvTick, N: 1, Data: data}, false)
	}
	checkEventIs(t, impl.Event{Kind: impl.EvPick, Session: 1, Data: []byte{}}, true)
	checkEventIs(t, impl.Event{Kind: impl.EvTick, N: 1, Data: []byte{}}, true)
	checkEventIs(t, impl.Event{Kind: impl.EvFrame, Data: []byte{}}, true)
	for _, kind := range append(extremes(), 0, 4, 5, 16, 257) {
		for _, e := range []impl.Event{{}, {Session: 1}, {N: 1}, {Data: []byte("a")}, {Session: 1, N: 1, Data: []byte("a")}} {
			e.Kind = kind
			checkEventIs(t, e, false)
		}
	}
}

// All small events, and those of limits.
func TestAllEvents(t *testing.T) {
	numbers := []int{math.MinInt, -1, 0, 1, 2, 3, 8, 9, 1000, 1001, math.MaxInt}
	for _, kind := range []int{-1, 0, 1, 2, 3, 4} {
		for _, session := range numbers {
			for _, n := range numbers {
				for _, length := range []int{0, 1, 9, 1000, 1001} {
					e := impl.Event{Kind: kind, Session: session, N: n, Data: bytes.Repeat([]byte{1}, length)}
					checkEventIs(t, e, modelEvent(e))
				}
			}
		}
	}
}

// fineReplies are those to the requests of sceneOf, at version 3.
func fineReplies() map[int]impl.Reply {
	return map[int]impl.Reply{
		impl.ReqOpen: reply(0, 3, 0, ""), impl.ReqClose: {},
		impl.ReqInsert: reply(0, 4, 10, ""), impl.ReqDelete: reply(0, 4, 10, ""), impl.ReqReplace: reply(0, 4, 10, ""),
		impl.ReqRead: reply(0, 0, 0, "bbbbbbbbbb"), impl.ReqFind: reply(0, 10, 0, ""), impl.ReqBack: reply(0, 10, 0, ""),
		impl.ReqLine: reply(0, 0, 9, ""), impl.ReqPlace: reply(0, 11, 0, ""), impl.ReqSelect: {},
		impl.ReqLock: {}, impl.ReqRenew: {}, impl.ReqUnlock: {},
		impl.ReqUndo: reply(0, 4, 10, ""), impl.ReqRedo: reply(0, 4, 10, ""),
	}
}

// plannedEdits are those of the requests of sceneOf that edit.
func plannedEdits() map[int]impl.Edit {
	return map[int]impl.Edit{impl.ReqInsert: edit(10, 0, "xy"), impl.ReqDelete: edit(10, 10, ""), impl.ReqReplace: edit(10, 1, "xy")}
}

func TestRequestsOfEachKindFromFrameToAnswer(t *testing.T) {
	for kind := 1; kind <= 16; kind++ {
		s := sceneOf(kind)
		d, told := modelDocDo(s.d, s.r, 3)
		if want := fineReplies()[kind]; !sameReply(told, want) {
			t.Fatalf("kind %d is replied %s, not %s", kind, replyText(told), replyText(want))
		}
		m := checkQuiet(t, machOf(s.d), frame(s.r), machOf(s.d, newOp(s.r)))
		if e, plans := plannedEdits()[kind]; plans {
			m = checkQuiet(t, m, pick(1), machOf(s.d, opAt(1, s.r, 3, 3, 0, e)))
			m = checkQuiet(t, m, pick(1), machOf(s.d, opAt(2, s.r, 3, 3, 0, e)))
		}
		m = checkTold(t, m, pick(1), machOf(d), outOf(s.r, 3, fineReplies()[kind]))
		checkQuiet(t, m, pick(1), m)
	}
}

// Other sessions' ops, and time, are none of a request's business.
func TestOtherOpsStayAsTheyAre(t *testing.T) {
	for kind := 1; kind <= 16; kind++ {
		s := sceneOf(kind)
		line2, line8, put3 := newOp(req(impl.ReqLine, 2, 1, 0, 0, "")), newOp(req(impl.ReqLine, 8, 1, 0, 0, "")), req(impl.ReqInsert, 3, 3, 0, 0, "\u00e9")
		rest := []impl.Op{line2, opAt(2, put3, 1, 2, 7, edit(3, 0, "\u00e9")), line8}
		d, _ := modelDocDo(s.d, s.r, 3)
		m := checkQuiet(t, machOf(s.d, rest...), frame(s.r), machOf(s.d, append([]impl.Op{newOp(s.r)}, rest...)...))
		if e, plans := plannedEdits()[kind]; plans {
			m = checkQuiet(t, m, pick(1), machOf(s.d, append([]impl.Op{opAt(1, s.r, 3, 3, 0, e)}, rest...)...))
			m = checkQuiet(t, m, pick(1), machOf(s.d, append([]impl.Op{opAt(2, s.r, 3, 3, 0, e)}, rest...)...))
		}
		checkTold(t, m, pick(1), machOf(d, rest...), outOf(s.r, 3, fineReplies()[kind]))
		later, _ := modelTick(s.d, 5)
		checkQuiet(t, m, tick(5), machOf(later, m.Ops...))
	}
}

// A rejection is told at the first pick, but of a request that edits only if it cannot be planned.
func TestRejectionsOfEachKind(t *testing.T) {
	for kind := 1; kind <= 16; kind++ {
		told := map[int]bool{}
		for _, f := range faultsOf(kind) {
			s := sceneOf(kind)
			f.make(&s)
			if !modelDocOk(s.d) || s.base != 1 {
				continue
			}
			none := machOf(s.d)
			if f.code == impl.RepForm {
				checkTold(t, none, frame(s.r), none, impl.Out{Reply: impl.Reply{Code: impl.RepForm}})
				told[f.code] = true
				continue
			}
			now := len(s.d.Log)
			m := checkQuiet(t, none, frame(s.r), machOf(s.d, newOp(s.r)))
			if e, plans := plannedEdits()[kind]; plans && (f.code == impl.RepLocked || f.code == impl.RepFull) {
				m = checkQuiet(t, m, pick(1), machOf(s.d, opAt(1, s.r, now, now, 0, e)))
				m = checkQuiet(t, m, pick(1), machOf(s.d, opAt(2, s.r, now, now, 0, e)))
			}
			checkTold(t, m, pick(1), none, outOf(s.r, now, impl.Reply{Code: f.code}))
			told[f.code] = true
		}
		for _, code := range codesOf(kind) {
			if code != impl.RepFine && !told[code] {
				t.Errorf("kind %d was not told %d", kind, code)
			}
		}
	}
}

func TestFramesThatAreNoRequests(t *testing.T) {
	put := req(impl.ReqInsert, 1, 0, 0, 0, "x")
	for _, m := range []impl.Mach{{}, machOf(room("ab")), machOf(room("ab"), newOp(put)), machOf(room("ab"), opAt(2, put, 0, 0, 7, edit(0, 0, "x")))} {
		refused := impl.Out{Reply: impl.Reply{Code: impl.RepForm}}
		valid := string(rawReq(put))
		for _, data := range []string{"", "\x01", "\x00", valid[:8], valid[:9], valid[1:], valid + "\x00", strings.Repeat("\x00", 9), strings.Repeat("\x00", 1000), strings.Repeat(valid, 2)} {
			checkTold(t, m, frameOf(data), m, refused)
		}
		for kind := 1; kind <= 16; kind++ {
			// What cannot be encoded is not looked at here, since only its low bytes arrive.
			for _, r := range wrongReqs(kind) {
				if _, ok := modelParse(rawReq(r)); !ok && len(rawReq(r)) <= 1000 {
					checkTold(t, m, frame(r), m, refused)
				}
			}
		}
		for _, r := range []impl.Req{req(0, 1, 0, 0, 0, ""), req(17, 1, 0, 0, 0, ""), req(impl.ReqOpen, 0, 0, 0, 0, ""), req(impl.ReqOpen, 9, 0, 0, 0, ""), req(impl.ReqOpen, 1, 1, 0, 0, ""), req(impl.ReqFind, 1, 0, 0, 0, ""), req(impl.ReqInsert, 1, 0, 0, 0, "\xff"), req(impl.ReqInsert, 1, 0, 0, 0, strings.Repeat("a", 101))} {
			checkTold(t, m, frame(r), m, refused)
		}
	}
}

// A session has one request at a time, whatever the stage, and whether or not it is a member.
func TestFramesOfSessionsWithAnOp(t *testing.T) {
	d := edited(t, room("abcdef"), 3, edit(0, 0, "1"), edit(3, 1, ""))
	put := req(impl.ReqReplace, 2, 1, 4, 0, "\u00e9")
	ops := []impl.Op{newOp(put), newOp(req(impl.ReqClose, 2, 0, 0, 0, "")), newOp(req(impl.ReqUndo, 2, 0, 0, 0, "")), opAt(1, put, 0, 0, 0, edit(1, 3, "\u00e9")), opAt(1, put, 0, 1, 7, edit(2, 3, "\u00e9")), opAt(2, put, 2, 2, 0, edit(1, 3, "\u00e9"))}
	for _, o := range ops {
		m := machOf(d, newOp(req(impl.ReqRedo, 1, 0, 0, 0, "")), o)
		for kind := 1; kind <= 16; kind++ {
			for _, r := range []impl.Req{reqOfKind(kind, 2, 1, "x"), reqOfKind(kind, 2, 65535, strings.Repeat("\u00e9", 50)), o.Req} {
				checkTold(t, m, frame(r), m, outOf(r, 0, impl.Reply{Code: impl.RepLate}))
			}
			r := reqOfKind(kind, 3, 1, "x")
			checkQuiet(t, m, frame(r), machOf(d, append(m.Ops[:2:2], newOp(r))...))
		}
	}
	// A session that is no member waits for its answer like the others.
	for kind := 2; kind <= 16; kind++ {
		r := reqOfKind(kind, 5, 0, "a")
		again := req(impl.ReqOpen, 5, 0, 0, 0, "")
		m := checkQuiet(t, machOf(d), frame(r), machOf(d, newOp(r)))
		checkTold(t, m, frame(again), m, outOf(again, 0, impl.Reply{Code: impl.RepLate}))
		m = checkTold(t, m, pick(5), machOf(d), outOf(r, 2, impl.Reply{Code: impl.RepWho}))
		checkQuiet(t, m, frame(again), machOf(d, newOp(again)))
	}
}

func TestPicksOfSessionsWithoutAnOp(t *testing.T) {
	d := edited(t, room("abc"), 1, edit(1, 1, "xy"))
	for _, m := range []impl.Mach{{}, machOf(docOf("ab")), machOf(d), machOf(d, newOp(req(impl.ReqUndo, 2, 0, 0, 0, "")), newOp(req(impl.ReqOpen, 6, 0, 0, 0, "")))} {
		for session := 1; session <= 8; session++ {
			if _, pending := modelPending(m.Ops, session); !pending {
				checkQuiet(t, m, pick(session), m)
			}
		}
	}
}

// The edit of session 2 is planned, and then others commit, before it is checked or after that.
func TestCommitsBetweenTheStages(t *testing.T) {
	for _, x := range []struct {
		name       string
		r          impl.Req
		planned    impl.Edit
		others     []impl.Edit
		moved      impl.Edit
		text, left string
	}{
		{"before it", req(impl.ReqReplace, 2, 2, 4, 0, "XY"), edit(2, 2, "XY"), edits(edit(0, 0, "12")), edit(4, 2, "XY"), "abcdef", "12abXYef"},
		{"behind it", req(impl.ReqReplace, 2, 2, 4, 0, "XY"), edit(2, 2, "XY"), edits(edit(6, 0, "12")), edit(2, 2, "XY"), "abcdef", "abXYef12"},
		{"at the same place", req(impl.ReqInsert, 2, 3, 0, 0, "XY"), edit(3, 0, "XY"), edits(edit(3, 0, "12")), edit(5, 0, "XY"), "abcdef", "abc12XYdef"},
		{"inside of it", req(impl.ReqDelete, 2, 1, 5, 0, ""), edit(1, 4, ""), edits(edit(3, 0, "12")), edit(1, 6, ""), "abcdef", "af"},
		{"the same cut", req(impl.ReqDelete, 2, 1, 5, 0, ""), edit(1, 4, ""), edits(edit(1, 4, "")), edit(1, 0, ""), "abcdef", "af"},
		{"more than the same cut", req(impl.ReqReplace, 2, 2, 4, 0, "XY"), edit(2, 2, "XY"), edits(edit(1, 4, "-")), edit(2, 0, "XY"), "abcdef", "a-XYf"},
		{"a part of the same cut", req(impl.ReqReplace, 2, 2, 5, 0, "XY"), edit(2, 3, "XY"), edits(edit(3, 3, "\u00e9")), edit(2, 1, "XY"), "abcdef", "abXY\u00e9"},
		{"several", req(impl.ReqReplace, 2, 2, 4, 0, "XY"), edit(2, 2, "XY"), edits(edit(0, 1, ""), edit(2, 0, "12"), edit(5, 1, "")), edit(1, 4, "XY"), "abcdef", "bXYf"},
		{"several that cut it all", req(impl.ReqReplace, 2, 2, 4, 0, "XY"), edit(2, 2, "XY"), edits(edit(1, 2, ""), edit(0, 2, "\u20ac"), edit(0, 5, "")), edit(0, 0, "XY"), "abcdef", "XY"},
		{"nothing", req(impl.ReqInsert, 2, 3, 0, 0, ""), edit(3, 0, ""), edits(edit(0, 0, "")), edit(3, 0, ""), "abcdef", "abcdef"},
	} {
		d := room(x.text)
		after := edited(t, d, 1, x.others...)
		done, version := edited(t, after, 2, x.moved), len(x.others)
		if string(done.Text) != x.left {
			t.Fatalf("%s: %q", x.name, done.Text)
		}
		for stage := 1; stage <= 2; stage++ {
			m, _ := steps(t, machOf(d), frame(x.r), pick(2))
			if stage == 2 {
				m, _ = steps(t, m, pick(2))
			}
			if !sameMach(m, machOf(d, opAt(stage, x.r, 0, 0, 0, x.planned))) {
				t.Fatalf("%s: %s", x.name, machText(m))
			}
			for _, e := range x.others {
				m, _ = steps(t, m, append([]impl.Event{frame(replacing(1, e))}, picks(1, 1, 1)...)...)
			}
			if !sameMach(m, machOf(after, opAt(stage, x.r, 0, 0, 0, x.planned))) {
				t.Fatalf("%s: %s", x.name, machText(m))
			}
			m = checkQuiet(t, m, pick(2), machOf(after, opAt(1, x.r, 0, version, 1, x.moved)))
			m = checkQuiet(t, m, pick(2), machOf(after, opAt(2, x.r, 0, version, 1, x.moved)))
			checkTold(t, m, pick(2), machOf(done), outOf(x.r, 0, reply(0, version+1, x.moved.At, "")))
		}
	}
}

// Before its first pick, a request may wait for any number of commits: it is about the text that it meets then.
func TestCommitsBeforeTheFirstPick(t *testing.T) {
	put := req(impl.ReqReplace, 2, 2, 4, 0, "XY")
	m, _ := steps(t, machOf(room("abcdef")), frame(put))
	for range 10 {
		m, _ = steps(t, m, append([]impl.Event{frame(req(impl.ReqInsert, 1, 0, 0, 0, "1"))}, picks(1, 1, 1)...)...)
	}
	checkLeft(t, m, "1111111111abcdef", 10)
	m = checkQuiet(t, m, pick(2), machOf(m.Doc, opAt(1, put, 10, 10, 0, edit(2, 2, "XY"))))
	m = stepsTo(t, m, picks(2, 2), at(1, outOf(put, 10, reply(0, 11, 2, ""))))
	checkLeft(t, m, "11XY111111abcdef", 11)
	// Here it meets a text that has no such place.
	gone := req(impl.ReqDelete, 2, 14, 16, 0, "")
	m, _ = steps(t, m, frame(gone), frame(req(impl.ReqDelete, 1, 0, 1, 0, "")))
	m, _ = steps(t, m, picks(1, 1, 1)...)
	checkTold(t, m, pick(2), machOf(m.Doc), outOf(gone, 12, impl.Reply{Code: impl.RepRange}))
}

// Commits between stages 0 and 1, and again between stages 1 and 2: each attempt is moved by what is new since the last one.
func TestCommitsBetweenAllStages(t *testing.T) {
	put := req(impl.ReqReplace, 2, 2, 4, 0, "XY")
	one := func(e impl.Edit) []impl.Event {
		return append([]impl.Event{frame(replacing(1, e))}, picks(1, 1, 1)...)
	}
	m, _ := steps(t, machOf(edited(t, room("abcdef"), 3, edit(6, 0, "g"))), frame(put), pick(2))
	m, _ = steps(t, m, one(edit(0, 0, "1"))...)
	m = checkQuiet(t, m, pick(2), machOf(m.Doc, opAt(1, put, 1, 2, 1, edit(3, 2, "XY"))))
	m = checkQuiet(t, m, pick(2), machOf(m.Doc, opAt(2, put, 1, 2, 1, edit(3, 2, "XY"))))
	m, _ = steps(t, m, one(edit(4, 0, "-"))...)
	m, _ = steps(t, m, one(edit(0, 1, ""))...)
	m = checkQuiet(t, m, pick(2), machOf(m.Doc, opAt(1, put, 1, 4, 2, edit(2, 3, "XY"))))
	m, _ = steps(t, m, one(edit(0, 0, "\u20ac"))...)
	m = checkQuiet(t, m, pick(2), machOf(m.Doc, opAt(1, put, 1, 5, 3, edit(5, 3, "XY"))))
	m = checkQuiet(t, m, pick(2), machOf(m.Doc, opAt(2, put, 1, 5, 3, edit(5, 3, "XY"))))
	m = stepsTo(t, m, picks(2), outOf(put, 1, reply(0, 6, 5, "")))
	checkLeft(t, m, "\u20acabXYefg", 6)
}

// An undo and a redo are commits, too, but what else happens in between is none.
func TestWhatElseHappensBetweenTheStages(t *testing.T) {
	put := req(impl.ReqInsert, 2, 3, 0, 0, "XY")
	for stage := 1; stage <= 2; stage++ {
		d := edited(t, room("abcdef"), 1, edit(0, 0, "12"), edit(1, 1, ""))
		m, _ := steps(t, machOf(d), append([]impl.Event{frame(put)}, picks(2, 2)[:stage]...)...)
		for _, r := range []impl.Req{req(impl.ReqRead, 1, 0, 3, 0, ""), req(impl.ReqSelect, 1, 3, 4, 0, ""), req(impl.ReqFind, 1, 0, 0, 0, "c"), req(impl.ReqBack, 1, 3, 0, 0, "c"), req(impl.ReqLine, 1, 3, 0, 0, ""), req(impl.ReqPlace, 1, 0, 3, 0, ""), req(impl.ReqLock, 3, 4, 6, 9, ""), req(impl.ReqRenew, 3, 4, 6, 5, ""), req(impl.ReqUnlock, 3, 4, 6, 0, ""), req(impl.ReqOpen, 5, 0, 0, 0, ""), req(impl.ReqClose, 3, 0, 0, 0, ""), req(impl.ReqRedo, 1, 0, 0, 0, ""), req(impl.ReqOpen, 1, 0, 0, 0, "")} {
			m, _ = steps(t, m, frame(r), pick(r.Session), tick(2))
		}
		want := opAt(stage, put, 2, 2, 0, edit(3, 0, "XY"))
		if len(m.Ops) != 1 || !sameOp(m.Ops[0], want) || m.Doc.Clock != 26 {
			t.Fatalf("what is no commit leaves %s", machText(m))
		}
		quiet := stepsTo(t, m, picks(2, 2)[stage-1:], at(2-stage, outOf(put, 2, reply(0, 3, 3, ""))))
		checkLeft(t, quiet, "1abXYcdef", 3)
		undo, redo := req(impl.ReqUndo, 1, 0, 0, 0, ""), req(impl.ReqRedo, 1, 0, 0, 0, "")
		m = stepsTo(t, m, []impl.Event{frame(undo), pick(1)}, at(1, outOf(undo, 2, reply(0, 3, 1, ""))))
		m = checkQuiet(t, m, pick(2), machOf(m.Doc, opAt(1, put, 2, 3, 1, edit(4, 0, "XY"))))
		m = stepsTo(t, m, []impl.Event{frame(redo), pick(1)}, at(1, outOf(redo, 3, reply(0, 4, 1, ""))))
		m = checkQuiet(t, m, pick(2), machOf(m.Doc, opAt(1, put, 2, 4, 2, edit(3, 0, "XY"))))
		m = stepsTo(t, m, picks(2, 2), at(1, outOf(put, 2, reply(0, 5, 3, ""))))
		checkLeft(t, m, "1abXYcdef", 5)
	}
}

// A machine stays valid where the older texts have no place for the selections, stacks and leases of today.
func TestOpsOfTextsThatAreGone(t *testing.T) {
	put := req(impl.ReqInsert, 2, 2, 0, 0, "XY")
	m, _ := steps(t, machOf(room("ab")), frame(put), pick(2), frame(req(impl.ReqInsert, 1, 2, 0, 0, "12345")))
	m, _ = steps(t, m, picks(1, 1, 1)...)
	m, _ = steps(t, m, frame(req(impl.ReqSelect, 1, 7, 6, 0, "")), pick(1), frame(req(impl.ReqLock, 3, 3, 7, 9, "")), pick(3))
	if !sameMach(m, machOf(m.Doc, opAt(1, put, 0, 0, 0, edit(2, 0, "XY")))) || len(m.Doc.Leases) != 1 || m.Doc.Members[0].Sel.From != 7 {
		t.Fatalf("a selection, a stack and a lease leave %s", machText(m))
	}
	checkQuiet(t, m, pick(2), machOf(m.Doc, opAt(1, put, 0, 1, 1, edit(7, 0, "XY"))))
	// A text in whose place there is now a shorter one.
	cut := req(impl.ReqReplace, 2, 4, 6, 0, "XY")
	m, _ = steps(t, machOf(room("abcdef")), append([]impl.Event{frame(cut), pick(2), frame(req(impl.ReqDelete, 1, 0, 5, 0, ""))}, picks(1, 1, 1)...)...)
	m = checkQuiet(t, m, pick(2), machOf(m.Doc, opAt(1, cut, 0, 1, 1, edit(0, 1, "XY"))))
	m = stepsTo(t, m, picks(2, 2), at(1, outOf(cut, 0, reply(0, 2, 0, ""))))
	checkLeft(t, m, "XY", 2)
}

// putBy are the events by which a session commits an insertion, if nothing comes in between.
func putBy(session int, place int, text string) []impl.Event {
	return append([]impl.Event{frame(req(impl.ReqInsert, session, place, 0, 0, text))}, picks(session, session, session)...)
}

// failing is a machine in which the insertion of session 2 at 1 of "ab" has failed n times. It fails after a plan or after a check.
func failing(t *testing.T, n int, checked bool) impl.Mach {
	t.Helper()
	m, _ := steps(t, machOf(room("ab")), frame(req(impl.ReqInsert, 2, 1, 0, 0, "Y")), pick(2))
	for range n {
		if checked {
			m, _ = steps(t, m, pick(2))
		}
		m, _ = steps(t, m, putBy(1, 0, "x")...)
		m, _ = steps(t, m, pick(2))
	}
	return m
}

func TestTries(t *testing.T) {
	put := req(impl.ReqInsert, 2, 1, 0, 0, "Y")
	for _, checked := range []bool{false, true} {
		for n := range 8 {
			m := failing(t, n, checked)
			want := opAt(1, put, 0, n, n, edit(n+1, 0, "Y"))
			if len(m.Ops) != 1 || !sameOp(m.Ops[0], want) {
				t.Fatalf("after %d failed attempts: %s", n, machText(m))
			}
			// However often it has failed, it commits if nobody else does.
			done := stepsTo(t, m, picks(2, 2), at(1, outOf(put, 0, reply(0, n+1, n+1, ""))))
			checkLeft(t, done, strings.Repeat("x", n)+"aYb", n+1)
		}
		for _, last := range []bool{false, true} {
			m := failing(t, 7, checked)
			if last {
				m, _ = steps(t, m, pick(2))
			}
			m, _ = steps(t, m, putBy(1, 0, "x")...)
			m = checkTold(t, m, pick(2), machOf(m.Doc), outOf(put, 0, impl.Reply{Code: impl.RepBusy}))
			checkLeft(t, m, "xxxxxxxxab", 8)
			// It may ask again, and starts anew.
			m = checkQuiet(t, m, frame(put), machOf(m.Doc, newOp(put)))
			m = stepsTo(t, m, picks(2, 2, 2), at(2, outOf(put, 8, reply(0, 9, 1, ""))))
			checkLeft(t, m, "xYxxxxxxxab", 9)
		}
	}
}

// The First of an answer is the version that the request met, but RepBusy is no answer of the document to that.
func TestTriesOfALaterVersion(t *testing.T) {
	put := req(impl.ReqDelete, 2, 0, 1, 0, "")
	m, _ := steps(t, machOf(edited(t, room("ab"), 3, edit(0, 0, "1"), edit(0, 0, "2"))), frame(put), pick(2))
	for n := range 8 {
		m, _ = steps(t, m, putBy(1, 0, "x")...)
		if n < 7 {
			m = checkQuiet(t, m, pick(2), machOf(m.Doc, opAt(1, put, 2, n+3, n+1, edit(n+1, 1, ""))))
			stepsTo(t, m, picks(2, 2), at(1, outOf(put, 2, reply(0, n+4, n+1, ""))))
		}
	}
	checkTold(t, m, pick(2), machOf(m.Doc), outOf(put, 0, impl.Reply{Code: impl.RepBusy}))
}

// Whatever the First and the Base of an op that fails for the last time, and whether or not it was checked, its output has First 0.
func TestFirstOfBusyAnswers(t *testing.T) {
	d := edited(t, room("abcd"), 3, edit(0, 0, "1"), edit(5, 0, "2"), edit(0, 1, ""))
	later := req(impl.ReqLine, 3, 0, 0, 0, "")
	for _, kind := range []int{impl.ReqInsert, impl.ReqDelete, impl.ReqReplace} {
		put := reqOfKind(kind, 2, 2, "Y")
		if kind != impl.ReqInsert {
			put.B = 3
		}
		for first := range 4 {
			for base := first; base < 4; base++ {
				was := impl.Doc{Start: d.Start, Text: []byte(modelTextAt(d, base)), Log: d.Log[:base], Members: membersOf(2)}
				e, _ := modelPlan(was, put, first)
				for stage := 1; stage <= 2; stage++ {
					m := machOf(d, opAt(stage, put, first, base, 7, e), newOp(later))
					if base < 3 {
						checkTold(t, m, pick(2), machOf(d, newOp(later)), outOf(put, 0, impl.Reply{Code: impl.RepBusy}))
						continue
					}
					// With the same First, an op that does not fail has an answer of the document.
					stepsTo(t, m, picks(2, 2)[stage-1:], at(2-stage, outOf(put, first, reply(0, 4, e.At, ""))))
				}
			}
		}
	}
}

// The run in which session 2 is told RepBusy has an edit that was planned at version 1.
func TestFirstOfABusyAnswerInARun(t *testing.T) {
	put := req(impl.ReqInsert, 2, 0, 0, 0, "Y")
	list := []impl.Event{frame(req(impl.ReqOpen, 1, 0, 0, 0, "")), pick(1), frame(req(impl.ReqOpen, 2, 0, 0, 0, "")), pick(2)}
	list = append(append(list, putBy(1, 0, "X")...), frame(put), pick(2))
	for range 8 {
		list = append(append(list, putBy(1, 0, "X")...), pick(2))
	}
	m, outs := checkRun(t, "", list)
	if want := at(49, outOf(put, 0, impl.Reply{Code: impl.RepBusy})); len(list) != 50 || len(outs) != 12 || !sameOut(outs[11], want) {
		t.Fatalf("50 events are told\n%s", outTexts(outs))
	}
	checkLeft(t, m, "XXXXXXXXX", 9)
	before, _ := checkRun(t, "", list[:49])
	if o, pending := impl.MachOp(before, 2); !pending || o.First != 1 || o.Tries != 7 {
		t.Fatalf("49 events leave %s", machText(before))
	}
	checkTold(t, before, pick(2), m, outOf(put, 0, impl.Reply{Code: impl.RepBusy}))
}

// An op fails once, however many commits have been made since it was picked.
func TestOneFailedAttemptForManyCommits(t *testing.T) {
	put := req(impl.ReqInsert, 2, 1, 0, 0, "Y")
	m, _ := steps(t, machOf(room("ab")), frame(put), pick(2))
	for range 20 {
		m, _ = steps(t, m, putBy(1, 1, "x")...)
		m, _ = steps(t, m, putBy(3, 0, "z")...)
	}
	m = checkQuiet(t, m, pick(2), machOf(m.Doc, opAt(1, put, 0, 40, 1, edit(41, 0, "Y"))))
	m = stepsTo(t, m, picks(2, 2), at(1, outOf(put, 0, reply(0, 41, 41, ""))))
	checkLeft(t, m, "z"+strings.Repeat("zx", 19)+"axYb", 41)
}

// A lease that is taken between the stages bars what was planned without it, and one that ends bars nothing any more.
func TestLeasesBetweenTheStages(t *testing.T) {
	put := req(impl.ReqReplace, 2, 2, 4, 0, "XY")
	lock := func(session int, c int) []impl.Event {
		return []impl.Event{frame(req(impl.ReqLock, session, 1, 3, c, "")), pick(session)}
	}
	for stage := 1; stage <= 2; stage++ {
		m, _ := steps(t, machOf(room("abcdef")), append([]impl.Event{frame(put)}, picks(2, 2)[:stage]...)...)
		last := picks(2, 2)[stage-1:]
		locked, _ := steps(t, m, lock(3, 5)...)
		told := at(2-stage, outOf(put, 0, impl.Reply{Code: impl.RepLocked}))
		left := stepsTo(t, locked, last, told)
		if !sameMach(left, machOf(locked.Doc)) {
			t.Fatalf("an edit that is barred leaves %s", machText(left))
		}
		// Until 4 the lease is active, and from 5 on it is not.
		late, _ := steps(t, locked, tick(4))
		stepsTo(t, late, last, told)
		ended, _ := steps(t, locked, tick(3), tick(2))
		told = at(2-stage, outOf(put, 0, reply(0, 1, 2, "")))
		checkLeft(t, stepsTo(t, ended, last, told), "abXYef", 1)
		// An own lease does not bar it, nor one that was there, but was removed, or whose session has left.
		f, _ := steps(t, locked, frame(req(impl.ReqUnlock, 3, 1, 3, 0, "")), pick(3))
		stepsTo(t, f, last, told)
		f, _ = steps(t, locked, frame(req(impl.ReqClose, 3, 0, 0, 0, "")), pick(3))
		stepsTo(t, f, last, told)
		f, _ = steps(t, locked, frame(req(impl.ReqRenew, 3, 1, 3, 9, "")), pick(3), tick(5))
		stepsTo(t, f, last, at(2-stage, outOf(put, 0, impl.Reply{Code: impl.RepLocked})))
	}
	// What is moved out of a lease's way is not barred, and what is moved into it is.
	m, _ := steps(t, machOf(room("abcdef")), append([]impl.Event{frame(req(impl.ReqLock, 2, 2, 4, 5, "")), pick(2), frame(put)}, picks(2, 2)...)...)
	own := stepsTo(t, m, picks(2), outOf(put, 0, reply(0, 1, 2, "")))
	checkLeft(t, own, "abXYef", 1)
	m, _ = steps(t, machOf(room("abcdef")), frame(req(impl.ReqDelete, 2, 1, 3, 0, "")), pick(2))
	m, _ = steps(t, m, putBy(1, 2, "123")...)
	m, _ = steps(t, m, frame(req(impl.ReqLock, 3, 2, 5, 5, "")), pick(3))
	stepsTo(t, m, picks(2, 2, 2), at(2, outOf(req(impl.ReqDelete, 2, 1, 3, 0, ""), 0, impl.Reply{Code: impl.RepLocked})))
}

// A document that becomes full between the stages has no room for what was planned.
func TestFullDocsBetweenTheStages(t *testing.T) {
	put := req(impl.ReqInsert, 2, 1, 0, 0, "XY")
	for stage := 1; stage <= 2; stage++ {
		start := append([]impl.Event{frame(put)}, picks(2, 2)[:stage]...)
		m, _ := steps(t, machOf(room(strings.Repeat("a", 397))), start...)
		roomLeft, _ := steps(t, m, putBy(1, 0, "z")...)
		done := stepsTo(t, roomLeft, picks(2, 2, 2), at(2, outOf(put, 0, reply(0, 2, 2, ""))))
		checkLeft(t, done, "zaXY"+strings.Repeat("a", 396), 2)
		full, _ := steps(t, m, putBy(1, 0, "\u00e9")...)
		left := stepsTo(t, full, picks(2, 2, 2), at(2, outOf(put, 0, impl.Reply{Code: impl.RepFull})))
		if !sameMach(left, machOf(full.Doc)) {
			t.Fatalf("an edit without room leaves %s", machText(left))
		}
		// Room that is made again in time.
		again, _ := steps(t, full, append([]impl.Event{frame(req(impl.ReqUndo, 1, 0, 0, 0, "")), pick(1)}, picks(2, 2)...)...)
		stepsTo(t, again, picks(2), outOf(put, 0, reply(0, 3, 1, "")))
		d := room("ab")
		d.Log = noCommits(59)
		m, _ = steps(t, machOf(d), start...)
		stepsTo(t, m, picks(2, 2)[stage-1:], at(2-stage, outOf(put, 59, reply(0, 60, 1, ""))))
		m, _ = steps(t, m, putBy(1, 0, "z")...)
		left = stepsTo(t, m, picks(2, 2, 2), at(2, outOf(put, 59, impl.Reply{Code: impl.RepFull})))
		checkLeft(t, left, "zab", 60)
		// A full Log is not seen before the last stage.
		m = checkQuiet(t, left, frame(put), machOf(left.Doc, newOp(put)))
		m = checkQuiet(t, m, pick(2), machOf(left.Doc, opAt(1, put, 60, 60, 0, edit(1, 0, "XY"))))
		m = checkQuiet(t, m, pick(2), machOf(left.Doc, opAt(2, put, 60, 60, 0, edit(1, 0, "XY"))))
		checkTold(t, m, pick(2), left, outOf(put, 60, impl.Reply{Code: impl.RepFull}))
	}
}

// No session can leave while its own request is pending, so that no edit loses its member.
func TestClosingWithAPendingRequest(t *testing.T) {
	put, leave := req(impl.ReqInsert, 2, 1, 0, 0, "Y"), req(impl.ReqClose, 2, 0, 0, 0, "")
	m, _ := steps(t, machOf(room("ab")), frame(put))
	for range 2 {
		m = checkTold(t, m, frame(leave), m, outOf(leave, 0, impl.Reply{Code: impl.RepLate}))
		m, _ = steps(t, m, pick(2))
	}
	m = checkTold(t, m, frame(leave), m, outOf(leave, 0, impl.Reply{Code: impl.RepLate}))
	m, _ = steps(t, m, putBy(1, 0, "x")...)
	m, _ = steps(t, m, pick(2))
	m = checkTold(t, m, frame(leave), m, outOf(leave, 0, impl.Reply{Code: impl.RepLate}))
	m = stepsTo(t, m, picks(2, 2), at(1, outOf(put, 0, reply(0, 2, 2, ""))))
	checkLeft(t, m, "xaYb", 2)
	// While it waits to leave, it is a member, but may not ask for anything.
	m, _ = steps(t, m, frame(leave))
	checkTold(t, m, frame(put), m, outOf(put, 0, impl.Reply{Code: impl.RepLate}))
	if idle := impl.MachIdle(m); !slices.Equal(idle, []int{1, 3}) {
		t.Errorf("idle are %v", idle)
	}
	m = stepsTo(t, m, picks(2), outOf(leave, 2, impl.Reply{}))
	if idle := impl.MachIdle(m); !slices.Equal(idle, []int{1, 3}) {
		t.Errorf("idle are %v", idle)
	}
	// Who has left is nobody, until it comes back.
	for kind := 2; kind <= 16; kind++ {
		r := leastReq(kind)
		r.Session = 2
		stepsTo(t, m, []impl.Event{frame(r), pick(2)}, at(1, outOf(r, 2, impl.Reply{Code: impl.RepWho})))
	}
	back := req(impl.ReqOpen, 2, 0, 0, 0, "")
	m = stepsTo(t, m, []impl.Event{frame(back), pick(2)}, at(1, outOf(back, 2, reply(0, 2, 0, ""))))
	stepsTo(t, m, append([]impl.Event{frame(put)}, picks(2, 2, 2)...), at(3, outOf(put, 2, reply(0, 3, 1, ""))))
	// One that comes while another one of its kind is pending in another session.
	twice := req(impl.ReqOpen, 4, 0, 0, 0, "")
	m = stepsTo(t, m, []impl.Event{frame(twice), frame(req(impl.ReqOpen, 5, 0, 0, 0, "")), pick(4), frame(twice), pick(4), pick(5)},
		at(2, outOf(twice, 2, reply(0, 2, 0, ""))), at(4, outOf(twice, 2, impl.Reply{Code: impl.RepTwice})), at(5, outOf(req(impl.ReqOpen, 5, 0, 0, 0, ""), 2, reply(0, 2, 0, ""))))
	if idle := impl.MachIdle(m); !slices.Equal(idle, []int{1, 2, 3, 4, 5}) {
		t.Errorf("idle are %v", idle)
	}
}

// What others have done in between decides about requests that are executed at once, too.
func TestRequestsThatAreExecutedLate(t *testing.T) {
	d := edited(t, room("abcdef"), 2, edit(3, 1, "XY"))
	for _, x := range []struct {
		r      impl.Req
		others []impl.Event
		want   impl.Reply
		at     int
	}{
		{req(impl.ReqUndo, 2, 0, 0, 0, ""), putBy(1, 0, "z"), reply(0, 3, 4, ""), 4},
		{req(impl.ReqUndo, 2, 0, 0, 0, ""), []impl.Event{frame(req(impl.ReqLock, 1, 4, 6, 3, "")), pick(1)}, reply(impl.RepLocked, 0, 0, ""), 2},
		{req(impl.ReqUndo, 2, 0, 0, 0, ""), []impl.Event{frame(req(impl.ReqLock, 1, 4, 6, 3, "")), pick(1), tick(3)}, reply(0, 2, 3, ""), 3},
		{req(impl.ReqRead, 2, 0, 3, 0, ""), putBy(1, 0, "z"), reply(0, 0, 0, "zab"), 4},
		{req(impl.ReqRead, 2, 0, 3, 0, ""), append([]impl.Event{frame(req(impl.ReqDelete, 1, 2, 7, 0, ""))}, picks(1, 1, 1)...), reply(impl.RepRange, 0, 0, ""), 4},
		{req(impl.ReqSelect, 2, 1, 2, 0, ""), putBy(1, 1, "\u00e9"), reply(impl.RepRange, 0, 0, ""), 4},
		{req(impl.ReqFind, 2, 0, 0, 0, "b"), putBy(1, 0, "z"), reply(0, 2, 0, ""), 4},
		{req(impl.ReqBack, 2, 3, 0, 0, "z"), putBy(1, 0, "z"), reply(0, 0, 0, ""), 4},
		{req(impl.ReqLine, 2, 3, 0, 0, ""), putBy(1, 1, "\n"), reply(0, 1, 1, ""), 4},
		{req(impl.ReqPlace, 2, 1, 1, 0, ""), putBy(1, 1, "\n"), reply(0, 3, 0, ""), 4},
		{req(impl.ReqLock, 2, 1, 3, 2, ""), []impl.Event{frame(req(impl.ReqLock, 1, 2, 4, 3, "")), pick(1)}, reply(impl.RepLocked, 0, 0, ""), 2},
		{req(impl.ReqLock, 2, 1, 3, 2, ""), []impl.Event{tick(998)}, impl.Reply{}, 1},
		{req(impl.ReqLock, 2, 1, 3, 2, ""), []impl.Event{tick(999)}, reply(impl.RepClock, 0, 0, ""), 1},
		{req(impl.ReqUnlock, 2, 1, 3, 0, ""), []impl.Event{tick(1)}, reply(impl.RepNone, 0, 0, ""), 1},
		{req(impl.ReqRedo, 2, 0, 0, 0, ""), putBy(1, 0, "z"), reply(impl.RepNone, 0, 0, ""), 4},
		{req(impl.ReqClose, 2, 0, 0, 0, ""), putBy(1, 0, "z"), impl.Reply{}, 4},
		{req(impl.ReqOpen, 2, 0, 0, 0, ""), putBy(1, 0, "z"), reply(impl.RepTwice, 0, 0, ""), 4},
		{req(impl.ReqOpen, 6, 0, 0, 0, ""), putBy(1, 0, "z"), reply(0, 2, 0, ""), 4},
	} {
		m, _ := steps(t, machOf(d), frame(x.r))
		m, _ = steps(t, m, x.others...)
		stepsTo(t, m, picks(x.r.Session), outOf(x.r, len(m.Doc.Log), x.want))
	}
}

func TestTicksOfMachines(t *testing.T) {
	put := req(impl.ReqInsert, 2, 1, 0, 0, "Y")
	d := room("abcdef")
	d.Leases = leases(lease(0, 2, 1, 3), lease(2, 3, 3, 1000))
	ops := []impl.Op{newOp(req(impl.ReqUndo, 1, 0, 0, 0, "")), opAt(2, put, 0, 0, 5, edit(1, 0, "Y"))}
	for _, n := range []int{1, 2, 3, 4, 999, 1000} {
		want := d
		want.Clock = n
		want.Leases = d.Leases
		if n >= 3 {
			want.Leases = d.Leases[1:]
		}
		if n == 1000 {
			want.Leases = nil
		}
		m := checkQuiet(t, machOf(d, ops...), tick(n), machOf(want, ops...))
		want.Clock = min(n+n, 1000)
		if n+n >= 3 {
			want.Leases = d.Leases[1:]
		}
		if n+n >= 1000 {
			want.Leases = nil
		}
		checkQuiet(t, m, tick(n), machOf(want, ops...))
	}
}

func TestIdleSessions(t *testing.T) {
	pending := func(sessions ...int) []impl.Op {
		var list []impl.Op
		for _, session := range sessions {
			list = append(list, newOp(req(impl.ReqUndo, session, 0, 0, 0, "")))
		}
		return list
	}
	all := []int{1, 2, 3, 4, 5, 6, 7, 8}
	for _, x := range []struct {
		members, ops, idle []int
	}{
		{nil, nil, nil}, {nil, []int{1, 8}, nil}, {nil, all, nil}, {all, nil, all}, {all, all, nil},
		{all, []int{1}, all[1:]}, {all, []int{8}, all[:7]}, {all, []int{2, 3, 5}, []int{1, 4, 6, 7, 8}}, {all, all[1:], []int{1}}, {all, all[:7], []int{8}},
		{[]int{3}, nil, []int{3}}, {[]int{3}, []int{3}, nil}, {[]int{3}, []int{1, 2, 4}, []int{3}}, {[]int{2, 5, 7}, []int{5}, []int{2, 7}}, {[]int{2, 5, 7}, []int{1, 2, 6, 8}, []int{5, 7}},
	} {
		d := docOf("ab")
		d.Members = membersOf(x.members...)
		m := machOf(d, pending(x.ops...)...)
		checkMachOk(t, m, true)
		if got := impl.MachIdle(m); !slices.Equal(got, x.idle) {
			t.Errorf("of the members %v with the ops %v, %v are idle, not %v", x.members, x.ops, got, x.idle)
		}
		m.Doc.Clock = -1
		checkMachOk(t, m, false)
		for session := range 10 {
			if o, ok := impl.MachOp(m, session); ok || !sameOp(o, impl.Op{}) {
				t.Errorf("MachOp of a machine that is not valid is %s, %v", opText(o), ok)
			}
		}
		if got := impl.MachIdle(m); len(got) > 0 {
			t.Errorf("of a machine that is not valid, %v are idle", got)
		}
	}
}

// Eight sessions, all of them with a request under way.
func TestEightOps(t *testing.T) {
	var list []impl.Event
	for _, session := range []int{5, 8, 1, 3, 2, 7, 4, 6} {
		list = append(list, frame(req(impl.ReqOpen, session, 0, 0, 0, "")), pick(session))
	}
	for _, session := range []int{6, 4, 7, 2, 3, 1, 8, 5} {
		list = append(list, frame(req(impl.ReqInsert, session, 0, 0, 0, fmt.Sprint(session))))
	}
	m, outs := checkRun(t, "", list)
	if len(m.Ops) != 8 || len(outs) != 8 || len(impl.MachIdle(m)) != 0 {
		t.Fatalf("eight ops: %s", machText(m))
	}
	for range 2 {
		list = append(list, picks(1, 2, 3, 4, 5, 6, 7, 8)...)
	}
	m, _ = checkRun(t, "", list)
	checkMachOk(t, m, true)
	// The first one commits, and the seven others fail; and so on, until one has failed seven times.
	for range 8 {
		list = append(list, picks(8, 7, 6, 5, 4, 3, 2, 1, 8, 7, 6, 5, 4, 3, 2, 1)...)
	}
	m, outs = checkRun(t, "", list)
	if checkLeft(t, m, "87654321", 8); len(outs) != 16 || outs[15].Session != 1 || !sameReply(outs[15].Reply, reply(0, 8, 7, "")) || outs[15].First != 0 {
		t.Fatalf("eight insertions are told\n%s", outTexts(outs))
	}
}

func TestRunsOfManyEvents(t *testing.T) {
	var list []impl.Event
	for range 60 {
		list = append(list, tick(1), frameOf("?"), pick(8), frame(req(impl.ReqOpen, 1, 0, 0, 0, "")), pick(1))
	}
	m, outs := checkRun(t, "ab", list)
	if len(list) != 300 || len(outs) != 120 || m.Doc.Clock != 60 || outs[119].At != 299 || outs[118].At != 296 {
		t.Fatalf("300 events leave %s;\n%s", machText(m), outTexts(outs))
	}
	checkRun(t, "ab", list[:299])
	checkNoRun(t, "301 events", "ab", append(slices.Clone(list), tick(1)))
	checkNoRun(t, "600 events", "ab", slices.Concat(list, list))
	checkNoRun(t, "301 events of no text", "\xff", append(slices.Clone(list), tick(1)))
	checkNoRun(t, "300 events of no text", "\xff", list)
	none := []impl.Event{{}, tick(0), tick(1001), pick(0), pick(9), frameOf(strings.Repeat("a", 1001)), {Kind: 4}, {Kind: impl.EvFrame, N: 1}}
	for _, e := range none {
		for _, n := range []int{0, 1, 150, 298, 299} {
			wrong := slices.Clone(list)
			wrong[n] = e
			checkNoRun(t, eventText(e), "ab", wrong)
		}
		checkNoRun(t, "one event", "ab", []impl.Event{e})
		checkNoRun(t, "the first of two", "ab", []impl.Event{e, tick(1)})
		checkNoRun(t, "the last of two", "ab", []impl.Event{tick(1), e})
	}
	for _, text := range []string{"", "ab", strings.Repeat("\u00e9", 200)} {
		m, outs := checkRun(t, text, nil)
		if !sameMach(m, machOf(docOf(text))) || len(outs) > 0 {
			t.Errorf("no event leaves %s", machText(m))
		}
		checkRun(t, text, []impl.Event{})
	}
}

// richMach has an op of each stage, and one of a session that is no member.
func richMach() impl.Mach {
	return machOf(richDoc(),
		opAt(1, req(impl.ReqReplace, 1, 0, 2, 0, "Q\u00e9"), 0, 2, 3, edit(2, 2, "Q\u00e9")),
		opAt(2, req(impl.ReqDelete, 2, 2, 4, 0, ""), 1, 3, 7, edit(2, 2, "")),
		newOp(req(impl.ReqOpen, 3, 0, 0, 0, "")),
		newOp(req(impl.ReqInsert, 4, 65535, 0, 0, "x\u20ac")))
}

// checkInvalidMach asserts what every function returns for a machine that is not valid.
func checkInvalidMach(t *testing.T, what string, m impl.Mach) {
	t.Helper()
	if modelMachOk(m) {
		t.Fatalf("%s: the model of %s is wrong", what, machText(m))
	}
	if impl.MachOk(m) {
		t.Fatalf("%s: MachOk of %s", what, machText(m))
	}
	checkMachOk(t, m, false)
	for _, e := range []impl.Event{pick(1), pick(2), pick(3), pick(4), pick(5), tick(1), frameOf("?"), frame(req(impl.ReqUndo, 1, 0, 0, 0, "")), frame(req(impl.ReqUndo, 6, 0, 0, 0, "")), {}, pick(0)} {
		if next, out, told := impl.MachStep(m, e); told || !sameOut(out, impl.Out{}) || !sameMach(next, impl.Mach{}) {
			t.Fatalf("%s: MachStep returns %s; %s, %v", what, machText(next), outText(out), told)
		}
	}
}

// checkMach compares every function of a machine that may be valid with the model.
func checkMach(t *testing.T, what string, m impl.Mach) {
	t.Helper()
	if !modelMachOk(m) {
		checkInvalidMach(t, what, m)
		return
	}
	checkMachOk(t, m, true)
	for session := 1; session <= 8; session++ {
		checkStep(t, m, pick(session))
		checkStep(t, m, frame(req(impl.ReqUndo, session, 0, 0, 0, "")))
	}
	checkStep(t, m, tick(1))
	checkStep(t, m, frameOf(""))
}

func TestMachinesWithOtherDocs(t *testing.T) {
	t.Parallel()
	checkMach(t, "rich", richMach())
	checkMachOk(t, richMach(), true)
	valid := 0
	for _, c := range slices.Concat(textChanges(), memberChanges(), leaseChanges()) {
		for n := range 5 {
			m := richMach()
			m.Ops = m.Ops[n:]
			c.make(&m.Doc)
			if modelMachOk(m) {
				valid++
			}
			if !c.valid {
				checkInvalidMach(t, c.name, m)
			}
			checkMach(t, c.name, m)
		}
	}
	if valid < 100 {
		t.Errorf("only %d machines are valid", valid)
	}
}

// machChange makes another machine of one.
type machChange struct {
	name  string
	valid bool
	make  func(m *impl.Mach)
}

// opChanges change the order of the ops of richMach, and their requests.
func opChanges() []machChange {
	return []machChange{
		{"no ops", true, func(m *impl.Mach) { m.Ops = nil }},
		{"empty ops", true, func(m *impl.Mach) { m.Ops = []impl.Op{} }},
		{"another order", false, func(m *impl.Mach) { m.Ops[0], m.Ops[1] = m.Ops[1], m.Ops[0] }},
		{"another order at the end", false, func(m *impl.Mach) { m.Ops[2], m.Ops[3] = m.Ops[3], m.Ops[2] }},
		{"an op twice", false, func(m *impl.Mach) { m.Ops = append(m.Ops, m.Ops[3]) }},
		{"two ops of a session", false, func(m *impl.Mach) { m.Ops[2].Req.Session = 2 }},
		{"an op of another session", true, func(m *impl.Mach) { m.Ops[2].Req.Session, m.Ops = 8, m.Ops[:3] }},
		{"nine ops", false, func(m *impl.Mach) {
			m.Ops = nil
			for session := range 9 {
				m.Ops = append(m.Ops, newOp(req(impl.ReqUndo, session+1, 0, 0, 0, "")))
			}
		}},
		{"an op that is zero", false, func(m *impl.Mach) { m.Ops = append(m.Ops, impl.Op{}) }},
		{"an op that is zero at the start", false, func(m *impl.Mach) { m.Ops[0] = impl.Op{} }},
		{"a request that is not valid", false, func(m *impl.Mach) { m.Ops[2].Req.A = 1 }},
		{"a request of no kind", false, func(m *impl.Mach) { m.Ops[2].Req.Kind = 17 }},
		{"a request without its text", false, func(m *impl.Mach) { m.Ops[2].Req.Kind = impl.ReqFind }},
		{"a request with too long a text", false, func(m *impl.Mach) { m.Ops[3].Req.Text = bytes.Repeat([]byte("a"), 101) }},
		{"a request with the longest text", true, func(m *impl.Mach) { m.Ops[3].Req.Text = bytes.Repeat([]byte("a"), 100) }},
		{"a text that is none", false, func(m *impl.Mach) { m.Ops[3].Req.Text = []byte("\xe2\x82") }},
		{"a request that nobody can plan", true, func(m *impl.Mach) { m.Ops[3].Req = req(impl.ReqDelete, 4, 9, 3, 0, "") }},
	}
}

// editChanges change the edits of richMach, and the requests that these belong to.
func editChanges() []machChange {
	return []machChange{
		{"another text than in the edit", false, func(m *impl.Mach) { m.Ops[0].Req.Text = []byte("Q") }},
		{"another text in the edit", false, func(m *impl.Mach) { m.Ops[0].Edit.Put = []byte("Qe") }},
		{"a shorter text in the edit", false, func(m *impl.Mach) { m.Ops[0].Edit.Put = []byte("Q") }},
		{"a longer text in the edit", false, func(m *impl.Mach) { m.Ops[0].Edit.Put = []byte("Q\u00e9!") }},
		{"no text in the edit", false, func(m *impl.Mach) { m.Ops[0].Edit.Put = nil }},
		{"an empty text in the edit", true, func(m *impl.Mach) { m.Ops[1].Edit.Put = []byte{} }},
		{"a text in the edit of a deletion", false, func(m *impl.Mach) { m.Ops[1].Edit.Put = []byte("x") }},
		{"another text in both", true, func(m *impl.Mach) { m.Ops[0].Req.Text, m.Ops[0].Edit.Put = []byte("zz"), []byte("zz") }},
		{"no edit", false, func(m *impl.Mach) { m.Ops[0].Edit = impl.Edit{} }},
		{"the edit before it is moved", false, func(m *impl.Mach) { m.Ops[0].Edit.At = 0 }},
		{"an edit of an op that is new", false, func(m *impl.Mach) { m.Ops[3].Edit.Put = []byte("x") }},
		{"an empty text of an op that is new", true, func(m *impl.Mach) { m.Ops[3].Edit.Put = []byte{} }},
		{"the edit of an op that is new", false, func(m *impl.Mach) { m.Ops[3].Req.A, m.Ops[3].Edit = 0, edit(0, 0, "x\u20ac") }},
		{"an op that is new, with its edit", false, func(m *impl.Mach) { m.Ops[0].Stage = 0 }},
		{"an op that is new, without its edit", true, func(m *impl.Mach) { m.Ops[0] = newOp(m.Ops[0].Req) }},
	}
}

// stageChanges change how far the ops of richMach are.
func stageChanges() []machChange {
	return []machChange{
		{"an op under way of no member", false, func(m *impl.Mach) {
			m.Ops[2] = opAt(1, req(impl.ReqInsert, 3, 0, 0, 0, "x"), 3, 3, 0, edit(0, 0, "x"))
		}},
		{"an op under way of a member", true, func(m *impl.Mach) {
			m.Ops[3] = opAt(1, req(impl.ReqInsert, 4, 0, 0, 0, "x"), 3, 3, 0, edit(0, 0, "x"))
		}},
		{"an op under way whose session has left", false, func(m *impl.Mach) { m.Doc.Members = m.Doc.Members[1:] }},
		{"an op under way that does not edit", false, func(m *impl.Mach) { m.Ops[3] = opAt(1, req(impl.ReqUndo, 4, 0, 0, 0, ""), 3, 3, 0, impl.Edit{}) }},
		{"a reading op under way", false, func(m *impl.Mach) {
			m.Ops[3] = opAt(2, req(impl.ReqRead, 4, 4, 6, 0, ""), 3, 3, 0, edit(4, 2, ""))
		}},
		{"a finding op under way", false, func(m *impl.Mach) {
			m.Ops[3] = opAt(1, req(impl.ReqFind, 4, 4, 0, 0, "x"), 3, 3, 0, edit(4, 0, "x"))
		}},
		{"an op under way of a place that is none", false, func(m *impl.Mach) {
			m.Ops[3] = opAt(1, req(impl.ReqInsert, 4, 12, 0, 0, "x"), 3, 3, 0, edit(12, 0, "x"))
		}},
		{"an op under way of a place that was none", false, func(m *impl.Mach) {
			m.Ops[3] = opAt(1, req(impl.ReqInsert, 4, 13, 0, 0, "x"), 0, 3, 0, edit(14, 0, "x"))
		}},
		{"an op under way without an edit, since there is none", false, func(m *impl.Mach) {
			m.Ops[3] = opAt(1, req(impl.ReqInsert, 4, 13, 0, 0, "x"), 0, 3, 0, impl.Edit{})
		}},
		{"a First that others have left behind", false, func(m *impl.Mach) { m.Ops[0].First = 1 }},
		{"a Base that others have left behind", true, func(m *impl.Mach) { m.Ops[1].Base = 2 }},
		{"the last attempt", true, func(m *impl.Mach) { m.Ops[0].Tries = 7 }},
		{"an attempt too many", false, func(m *impl.Mach) { m.Ops[0].Tries = 8 }},
		{"less than no attempt", false, func(m *impl.Mach) { m.Ops[0].Tries = -1 }},
		{"an attempt of an op that is new", false, func(m *impl.Mach) { m.Ops[3].Tries = 1 }},
		{"another stage", true, func(m *impl.Mach) { m.Ops[0].Stage, m.Ops[1].Stage = 2, 1 }},
		{"a third stage", false, func(m *impl.Mach) { m.Ops[1].Stage = 3 }},
		{"a stage before all others", false, func(m *impl.Mach) { m.Ops[1].Stage = -1 }},
		{"a stage of an op that is new", false, func(m *impl.Mach) { m.Ops[2].Stage = 1 }},
		{"a Base before First", false, func(m *impl.Mach) { m.Ops[1].First, m.Ops[1].Base = 3, 2 }},
		{"a Base that is no version yet", false, func(m *impl.Mach) { m.Ops[1].Base = 4 }},
		{"an edit that cuts more than its request", false, func(m *impl.Mach) { m.Ops[1].Edit.Cut = 3 }},
		{"an edit that was shortened", true, func(m *impl.Mach) { m.Ops[1] = opAt(2, req(impl.ReqDelete, 2, 4, 6, 0, ""), 1, 3, 7, edit(5, 1, "")) }},
		{"an edit that should have been shortened", false, func(m *impl.Mach) { m.Ops[1] = opAt(2, req(impl.ReqDelete, 2, 4, 6, 0, ""), 1, 3, 7, edit(4, 2, "")) }},
	}
}

func TestMachinesWithOtherOps(t *testing.T) {
	for _, c := range slices.Concat(opChanges(), editChanges(), stageChanges()) {
		m := richMach()
		c.make(&m)
		if modelMachOk(m) != c.valid || impl.MachOk(m) != c.valid {
			t.Errorf("%s: %s", c.name, machText(m))
		}
		checkMach(t, c.name, m)
	}
}

// Each number of a machine in turn is every small number, a limit, or an extreme.
func TestEveryNumberOfAMach(t *testing.T) {
	t.Parallel()
	numbersOfMach := func(m *impl.Mach) []*int {
		var list []*int
		for i := range m.Ops {
			o := &m.Ops[i]
			list = append(list, &o.Req.Kind, &o.Req.Session, &o.Req.A, &o.Req.B, &o.Req.C, &o.Stage, &o.First, &o.Base, &o.Tries, &o.Edit.At, &o.Edit.Cut)
		}
		return append(list, numbersOf(&m.Doc)...)
	}
	numbers := append(append(extremes(), 60, 61, 399, 400, 401, 998, 999, 1000, 65535, 65536), allNumbers(18)...)
	first := richMach()
	valid, invalid := 0, 0
	for n := range numbersOfMach(&first) {
		for _, x := range numbers {
			m := richMach()
			*numbersOfMach(&m)[n] = x
			if modelMachOk(m) {
				valid++
			} else {
				invalid++
			}
			checkMach(t, fmt.Sprint("number ", n, " is ", x), m)
		}
	}
	if valid < 150 || invalid < 2000 {
		t.Errorf("%d machines are valid, and %d are not", valid, invalid)
	}
}

// All numbers of one op at once: of each First and Base, exactly one edit is valid.
func TestAllOpsOfADoc(t *testing.T) {
	t.Parallel()
	d := edited(t, edited(t, room("abc"), 3, edit(1, 1, "xy")), 1, edit(0, 1, ""))
	put := req(impl.ReqReplace, 2, 1, 2, 0, "Q")
	valid := 0
	for stage := -1; stage <= 3; stage++ {
		for first := -1; first <= 3; first++ {
			for base := -1; base <= 3; base++ {
				for place := range 4 {
					for cut := -1; cut <= 3; cut++ {
						for _, tries := range []int{-1, 0, 7, 8} {
							m := machOf(d, opAt(stage, put, first, base, tries, edit(place, cut, "Q")))
							checkMachOk(t, m, modelMachOk(m))
							if modelMachOk(m) {
								valid++
							}
						}
					}
				}
			}
		}
	}
	// Two stages, six pairs of First and Base, and two numbers of Tries.
	if valid != 24 {
		t.Errorf("%d ops are valid", valid)
	}
}

// In every order in which three sessions can be picked, some of their edits fail and some are committed.
func TestAllOrdersOfPicks(t *testing.T) {
	t.Parallel()
	m, _ := steps(t, machOf(room("abcd")), frame(req(impl.ReqDelete, 1, 0, 2, 0, "")), frame(req(impl.ReqReplace, 2, 1, 3, 0, "XY")), frame(req(impl.ReqInsert, 3, 2, 0, 0, "z")))
	m, _ = steps(t, m, picks(1, 2, 3)...)
	texts := map[string]int{}
	var follow func(f follower, n int)
	follow = func(f follower, n int) {
		if n == 0 || len(f.m.Ops) == 0 {
			if len(f.m.Ops) > 0 {
				t.Fatalf("still pending: %s", machText(f.m))
			}
			texts[string(f.m.Doc.Text)]++
			return
		}
		for _, o := range f.m.Ops {
			next := f
			next.waits = map[int]wait{}
			for session, w := range f.waits {
				next.waits[session] = w
			}
			next.step(t, pick(o.Req.Session))
			follow(next, n-1)
		}
	}
	f := newFollower(m)
	f.waits = map[int]wait{1: {picked: 1}, 2: {picked: 1}, 3: {picked: 1}}
	follow(*f, 12)
	// An insertion that comes first is cut along with what is around it, unless that was cut before.
	for _, text := range []string{"XYzd", "XYd", "zXYd"} {
		if texts[text] < 100 {
			t.Errorf("%q was left %d times", text, texts[text])
		}
		delete(texts, text)
	}
	if len(texts) > 0 {
		t.Errorf("other texts were left: %v", texts)
	}
}

// randomMachReq is mostly of a member that is idle, and asks to be one if it is none.
func randomMachReq(random *rand.Rand, m impl.Mach, sessions int) impl.Req {
	r, _ := randomDocReq(random, m.Doc)
	if _, pending := modelPending(m.Ops, r.Session); pending && random.Intn(6) > 0 || r.Session > sessions {
		r.Session = 1 + random.Intn(sessions)
	}
	if modelMember(m.Doc, r.Session) < 0 && random.Intn(3) > 0 {
		return req(impl.ReqOpen, r.Session, 0, 0, 0, "")
	}
	return r
}

// randomMachEvent picks each session equally often. A mean one seldom picks session 1 before others have committed.
func randomMachEvent(random *rand.Rand, m impl.Mach, sessions int, mean bool) impl.Event {
	switch n := random.Intn(100); {
	case n < 3:
		return tick(1 + random.Intn(4))
	case n < 5:
		data := make([]byte, random.Intn(12))
		random.Read(data)
		return frameOf(string(data))
	case n < 35:
		return frame(randomMachReq(random, m, sessions))
	}
	session := 1 + random.Intn(sessions)
	o, _ := modelPending(m.Ops, 1)
	if mean && session == 1 && o.Stage > 0 && o.Base == len(m.Doc.Log) && random.Intn(20) > 0 {
		session = 2 + random.Intn(sessions-1)
	}
	return pick(session)
}

// countCodes counts the codes of each kind that were told. Where there was no request, the kind is 0.
func countCodes(done map[[2]int]int, told []impl.Out) {
	for _, out := range told {
		done[[2]int{out.Req.Kind, out.Reply.Code}]++
	}
}

// isMeanWalk is true for some walks where startOfAWalk leaves room in the Log.
func isMeanWalk(n int) bool {
	return n%4 >= 2
}

func allCodes() []int {
	return []int{impl.RepFine, impl.RepForm, impl.RepWho, impl.RepTwice, impl.RepFull, impl.RepRange, impl.RepLocked, impl.RepNone, impl.RepClock, impl.RepBusy, impl.RepLate}
}

func TestRandomWalksOfMachines(t *testing.T) {
	t.Parallel()
	random := rand.New(rand.NewSource(111))
	done := map[[2]int]int{}
	for n := range 40 {
		f := newFollower(machOf(startOfAWalk(random, n)))
		for range 320 {
			f.step(t, randomMachEvent(random, f.m, 4, isMeanWalk(n)))
		}
		checkMach(t, "the last", f.m)
		countCodes(done, f.told)
	}
	checkCodes(t, done, 10, allCodes()...)
}

// checkCodes asserts that each kind was told RepFine, that each code was told often enough, and that no kind was told a code that it cannot have.
func checkCodes(t *testing.T, done map[[2]int]int, least int, codes ...int) {
	t.Helper()
	for kind := 1; kind <= 16; kind++ {
		if done[[2]int{kind, impl.RepFine}] == 0 {
			t.Errorf("kind %d was never told RepFine", kind)
		}
	}
	counts := map[int]int{}
	for told, n := range done {
		kind, code := told[0], told[1]
		counts[code] += n
		may := code == impl.RepLate || code != impl.RepForm && slices.Contains(codesOf(kind), code)
		if kind == 0 {
			may = code == impl.RepForm
		}
		if edits := kind >= impl.ReqInsert && kind <= impl.ReqReplace; !may && !(edits && code == impl.RepBusy) {
			t.Errorf("kind %d was told %d", kind, code)
		}
	}
	for _, code := range codes {
		if counts[code] < least {
			t.Errorf("%d was told %d times", code, counts[code])
		}
	}
}

// randomRun returns a text, events of four sessions that all open first, and the machine that the steps leave.
func randomRun(random *rand.Rand, n int) (string, []impl.Event, impl.Mach) {
	text := textOf(randomRope(random, 40))
	m := machOf(docOf(text))
	var list []impl.Event
	for session := 1; session <= 4; session++ {
		list = append(list, frame(req(impl.ReqOpen, session, 0, 0, 0, "")), pick(session))
	}
	for _, e := range list {
		m, _, _ = impl.MachStep(m, e)
	}
	for len(list) < []int{300, 299, 100, 20}[n%4] {
		e := randomMachEvent(random, m, 4, isMeanWalk(n/2))
		m, _, _ = impl.MachStep(m, e)
		list = append(list, e)
	}
	return text, list, m
}

func TestRandomRuns(t *testing.T) {
	t.Parallel()
	random := rand.New(rand.NewSource(112))
	done := map[[2]int]int{}
	for n := range 30 {
		text, list, m := randomRun(random, n)
		last, told := checkRun(t, text, list)
		if !sameMach(last, m) {
			t.Fatalf("the run leaves %s, and the steps %s", machText(last), machText(m))
		}
		countCodes(done, told)
		list[random.Intn(len(list))] = []impl.Event{{}, tick(0), pick(9), frameOf(strings.Repeat("\x00", 1001))}[n%4]
		checkNoRun(t, "a random run", text, list)
	}
	checkCodes(t, done, 2, allCodes()...)
}

// A session that is alone is never told RepBusy or RepLocked, and answered at the first pick, or at the third if it edits.
func TestSessionsThatAreAlone(t *testing.T) {
	t.Parallel()
	random := rand.New(rand.NewSource(113))
	done := map[[2]int]int{}
	for n := range 30 {
		d := startOfAWalk(random, n)
		d.Members, d.Leases = nil, nil
		f := newFollower(machOf(d))
		for range 200 {
			was := f.m
			e := randomMachEvent(random, f.m, 1, false)
			out, told := f.step(t, e)
			if told && (out.Reply.Code == impl.RepBusy || out.Reply.Code == impl.RepLocked) {
				t.Fatalf("a session that is alone is told %s by %s", outText(out), machText(was))
			}
			o, pending := modelPending(was.Ops, 1)
			if last := o.Stage == 2 || !impl.ReqEdits(o.Req); e.Kind == impl.EvPick && pending && (told != last && o.Stage > 0 || last && !told || o.Tries > 0) {
				t.Fatalf("a session that is alone is told %v by %s", told, machText(was))
			}
		}
		countCodes(done, f.told)
	}
	checkCodes(t, done, 5, impl.RepFine, impl.RepForm, impl.RepWho, impl.RepTwice, impl.RepFull, impl.RepRange, impl.RepNone, impl.RepClock, impl.RepLate)
}

// However often others commit, the picks that a request may need are two more for each commit.
func TestPicksUntilTheAnswer(t *testing.T) {
	put := req(impl.ReqInsert, 2, 1, 0, 0, "Y")
	for n := range 8 {
		m, _ := steps(t, machOf(room("ab")), frame(put), pick(2), pick(2))
		picked := 2
		for range n {
			m, _ = steps(t, m, putBy(1, 0, "x")...)
			m, _ = steps(t, m, picks(2, 2)...)
			picked += 2
		}
		m = stepsTo(t, m, picks(2), outOf(put, 0, reply(0, n+1, n+1, "")))
		if picked+1 != 3+2*n || len(m.Ops) > 0 {
			t.Errorf("with %d commits, it took %d picks", n, picked+1)
		}
	}
}

// machArgs are the arguments of all functions of this chapter.
type machArgs struct {
	Mach    impl.Mach
	Event   impl.Event
	Session int
	Text    []byte
	List    []impl.Event
}

// machResult is all that a function returns.
type machResult struct {
	Mach impl.Mach
	Outs []impl.Out
	Op   impl.Op
	Idle []int
	Ok   bool
}

func machResultText(x machResult) string {
	return fmt.Sprintf("%s;\n%s\n%s; %v; %v", machText(x.Mach), outTexts(x.Outs), opText(x.Op), x.Idle, x.Ok)
}

func machCalls() map[string]func(machArgs) machResult {
	return map[string]func(machArgs) machResult{
		"MachNew": func(a machArgs) machResult {
			m, ok := impl.MachNew(a.Text)
			return machResult{Mach: m, Ok: ok}
		},
		"MachOk": func(a machArgs) machResult {
			return machResult{Ok: impl.MachOk(a.Mach)}
		},
		"EventOk": func(a machArgs) machResult {
			return machResult{Ok: impl.EventOk(a.Event)}
		},
		"MachOp": func(a machArgs) machResult {
			o, ok := impl.MachOp(a.Mach, a.Session)
			return machResult{Op: o, Ok: ok}
		},
		"MachStep": func(a machArgs) machResult {
			m, out, ok := impl.MachStep(a.Mach, a.Event)
			return machResult{Mach: m, Outs: []impl.Out{out}, Ok: ok}
		},
		"MachRun": func(a machArgs) machResult {
			m, outs, ok := impl.MachRun(a.Text, a.List)
			return machResult{Mach: m, Outs: outs, Ok: ok}
		},
		"MachIdle": func(a machArgs) machResult {
			return machResult{Idle: impl.MachIdle(a.Mach)}
		},
	}
}

// checkApartFrom asserts that no memory of the result is memory of the arguments, or twice in the result.
func checkApartFrom(t *testing.T, name string, got reflect.Value, args reflect.Value) {
	t.Helper()
	results := memoryOf(got, "result")
	all := slices.Concat(results, memoryOf(args, "arguments"))
	for i, a := range results {
		for _, b := range all[i+1:] {
			if a.from < b.to && b.from < a.to {
				t.Fatalf("%s: %s and %s share memory", name, a.what, b.what)
			}
		}
	}
}

// checkOwn asserts that a call reads nothing behind its arguments, changes none of them, and returns memory of its own.
func checkOwn[A any, R any](t *testing.T, name string, args A, call func(A) R, show func(R) string) {
	t.Helper()
	plain := call(args)
	checkApartFrom(t, name, reflect.ValueOf(plain), reflect.ValueOf(args))
	want := show(plain)
	wide := roomy(reflect.ValueOf(args))
	before := wholeText(wide)
	got := call(wide.Interface().(A))
	if show(got) != want {
		t.Fatalf("%s returns %s with more behind its arguments, and %s without", name, show(got), want)
	}
	if after := wholeText(wide); after != before {
		t.Fatalf("%s: its arguments %s became %s", name, before, after)
	}
	checkApartFrom(t, name, reflect.ValueOf(got), wide)
}

// sharing is a machine whose slices share memory wherever they can.
func sharing() impl.Mach {
	text := []byte("ababab")
	d := docOf("")
	d.Start, d.Text = text, text
	d.Log = commits(impl.Commit{Session: 1, Edit: impl.Edit{At: 0, Cut: 2, Put: text[:2]}}, impl.Commit{Session: 2, Edit: impl.Edit{At: 2, Cut: 2, Put: text[:2]}})
	turns := []impl.Edit{{At: 0, Cut: 2, Put: text[:2]}}
	d.Members = members(member(1, 0, 0, stack(turns, turns)), member(2, 0, 0, stack(turns, turns)))
	put := impl.Req{Kind: impl.ReqReplace, Session: 1, A: 4, B: 6, Text: text[:4]}
	other := impl.Req{Kind: impl.ReqInsert, Session: 2, A: 6, Text: text[:4]}
	return machOf(d, opAt(2, put, 0, 2, 0, impl.Edit{At: 4, Cut: 2, Put: text[:4]}), opAt(1, other, 1, 1, 0, impl.Edit{At: 6, Put: text[:4]}))
}

func TestMachinesShareNoMemory(t *testing.T) {
	t.Parallel()
	checkMachOk(t, sharing(), true)
	invalid := richMach()
	invalid.Ops[0].Tries = 8
	list := append([]impl.Event{frame(req(impl.ReqOpen, 1, 0, 0, 0, "")), pick(1), frameOf("?")}, putBy(1, 0, "\u00e9x")...)
	list = append(list, frame(req(impl.ReqFind, 1, 0, 0, 0, "x")), frame(req(impl.ReqFind, 1, 0, 0, 0, "xy")), pick(1), frame(req(impl.ReqRead, 1, 0, 2, 0, "")), pick(1), tick(3), frame(req(impl.ReqReplace, 1, 0, 3, 0, "abc")), pick(1))
	for _, m := range []impl.Mach{{}, machOf(room("ab")), richMach(), invalid, sharing()} {
		events := []impl.Event{{}, frameOf(""), frameOf("?"), tick(1), tick(20)}
		for session := 1; session <= 8; session++ {
			events = append(events, pick(session), frame(reqOfKind(impl.ReqReplace, session, 0, "xy\u20ac")), frame(reqOfKind(impl.ReqFind, session, 0, "b")))
		}
		for _, e := range events {
			for name, call := range machCalls() {
				checkOwn(t, name, machArgs{m, e, max(e.Session, 1), []byte("ab\u00e9"), append(slices.Clone(list), e)}, call, machResultText)
			}
		}
	}
}

// Every event of a random walk leaves the machine that it was given as it was.
func TestMachinesAreNotModified(t *testing.T) {
	t.Parallel()
	random := rand.New(rand.NewSource(114))
	for range 8 {
		m := machOf(startOfAWalk(random, 1+random.Intn(12)))
		var list []impl.Event
		for range 60 {
			e := randomMachEvent(random, m, 3, true)
			list = append(list, e)
			args := machArgs{m, e, 1 + random.Intn(3), m.Doc.Text, list}
			for name, call := range machCalls() {
				if name != "MachRun" || len(list)%20 == 0 {
					checkOwn(t, name, args, call, machResultText)
				}
			}
			m, _, _ = impl.MachStep(m, e)
		}
	}
}
