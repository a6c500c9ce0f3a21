package tests

import (
	"bytes"
	"fmt"
	"math"
	"math/rand"
	"slices"
	"strings"
	"testing"

	"loop.example/g00677/impl"
)

func doAct(base int, r impl.Req) impl.Act {
	return impl.Act{Kind: impl.ActDo, Base: base, Req: r}
}

func tickAct(n int) impl.Act {
	return impl.Act{Kind: impl.ActTick, N: n}
}

func sameAct(a impl.Act, b impl.Act) bool {
	return a.Kind == b.Kind && a.N == b.N && a.Base == b.Base && sameReq(a.Req, b.Req)
}

func actText(a impl.Act) string {
	return fmt.Sprintf("{kind %d n %d base %d %s}", a.Kind, a.N, a.Base, reqText(a.Req))
}

// linesOf shows each element in a line of its own.
func linesOf[V any](list []V, show func(V) string) string {
	var all []string
	for _, v := range list {
		all = append(all, show(v))
	}
	return strings.Join(all, "\n")
}

func actTexts(list []impl.Act) string {
	return linesOf(list, actText)
}

func eventTexts(list []impl.Event) string {
	return linesOf(list, eventText)
}

func replyTexts(list []impl.Reply) string {
	return linesOf(list, replyText)
}

// coded is a reply without anything but a code.
func coded(code int) impl.Reply {
	return impl.Reply{Code: code}
}

// isMachineCode is true for what the machine replies without the document.
func isMachineCode(code int) bool {
	return slices.Contains([]int{1, 9, 10}, code)
}

func modelAct(a impl.Act) bool {
	none := sameReq(a.Req, impl.Req{})
	do := a.Kind == 1 && a.N == 0 && a.Base >= 0 && modelReq(a.Req)
	return do || a.Kind == 2 && a.N >= 1 && a.N <= 1000 && a.Base == 0 && none
}

// modelOutAt follows the document: what an output must be, if it is at that event.
func modelOutAt(e impl.Event, out impl.Out) bool {
	r, brings := modelParse(e.Data)
	right := false
	switch {
	case e.Kind == 1 && !brings:
		right = out.Session == 0 && sameReq(out.Req, impl.Req{}) && out.Reply.Code == 1
	case e.Kind == 1:
		right = out.Session == r.Session && sameReq(out.Req, r) && out.Reply.Code == 10
	case e.Kind == 2:
		right = out.Session == e.Session && out.Req.Session == e.Session && modelReq(out.Req)
	}
	return right && modelReply(out.Reply)
}

func modelOutsOk(list []impl.Event, told []impl.Out) bool {
	if len(list) > 300 || len(told) > len(list) {
		return false
	}
	for _, e := range list {
		if !modelEvent(e) {
			return false
		}
	}
	for i, out := range told {
		if out.At < 0 || out.At >= len(list) || i > 0 && out.At <= told[i-1].At || !modelOutAt(list[out.At], out) {
			return false
		}
	}
	return true
}

func modelWitness(list []impl.Event, told []impl.Out) ([]impl.Act, bool) {
	if !modelOutsOk(list, told) {
		return nil, false
	}
	var acts []impl.Act
	for i, e := range list {
		if e.Kind == 3 {
			acts = append(acts, tickAct(e.N))
		}
		for _, out := range told {
			if out.At != i || isMachineCode(out.Reply.Code) {
				continue
			}
			if out.First < 0 {
				return nil, false
			}
			acts = append(acts, doAct(out.First, out.Req))
		}
	}
	return acts, true
}

func modelActsRun(text string, list []impl.Act) (impl.Doc, []impl.Reply, bool) {
	if !isText([]byte(text)) || len(list) > 300 || slices.ContainsFunc(list, func(a impl.Act) bool { return !modelAct(a) }) {
		return impl.Doc{}, nil, false
	}
	d := docOf(text)
	var replies []impl.Reply
	for _, a := range list {
		if a.Kind == 2 {
			d, _ = modelTick(d, a.N)
			continue
		}
		next, told := modelDocDo(d, a.Req, a.Base)
		d, replies = next, append(replies, told)
	}
	return d, replies, true
}

func modelAnswers(told []impl.Out, session int) []impl.Reply {
	var replies []impl.Reply
	for _, out := range told {
		if out.Session == session && len(told) <= 300 {
			replies = append(replies, out.Reply)
		}
	}
	return replies
}

// modelWaits counts anew from each request on. What is told at the event of a request itself is no later output.
func modelWaits(list []impl.Event, told []impl.Out, session int) int {
	if !modelOutsOk(list, told) {
		return -1
	}
	picked, waiting := -1, false
	for i, e := range list {
		if r, brings := modelParse(e.Data); brings && e.Kind == 1 && r.Session == session {
			picked, waiting = 0, true
			continue
		}
		if waiting && e.Kind == 2 && e.Session == session {
			picked++
		}
		for _, out := range told {
			waiting = waiting && !(out.At == i && out.Session == session)
		}
	}
	return picked
}

func checkActIs(t *testing.T, a impl.Act, want bool) {
	t.Helper()
	if modelAct(a) != want {
		t.Fatalf("the model of %s is wrong", actText(a))
	}
	if got := impl.ActOk(a); got != want {
		t.Fatalf("ActOk of %s is %v", actText(a), got)
	}
	checkActs(t, "ab", []impl.Act{a})
	if _, _, ok := impl.ActsRun([]byte("ab"), []impl.Act{a}); ok != want {
		t.Fatalf("ActsRun of %s is %v", actText(a), ok)
	}
}

// checkActs compares ActsRun with the model.
func checkActs(t *testing.T, text string, list []impl.Act) (impl.Doc, []impl.Reply, bool) {
	t.Helper()
	want, wantReplies, wantOk := modelActsRun(text, list)
	d, replies, ok := impl.ActsRun([]byte(text), list)
	if ok != wantOk || !sameDoc(d, want) || !slices.EqualFunc(replies, wantReplies, sameReply) {
		t.Fatalf("ActsRun(%q; %d actions:\n%s\n) = %s;\n%s\n%v, want %s;\n%s\n%v", text, len(list), actTexts(list), docText(d), replyTexts(replies), ok, docText(want), replyTexts(wantReplies), wantOk)
	}
	return d, replies, ok
}

// checkNoActs asserts that ActsRun returns nothing.
func checkNoActs(t *testing.T, what string, text string, list []impl.Act) {
	t.Helper()
	if d, replies, ok := checkActs(t, text, list); ok || len(replies) > 0 || !sameDoc(d, impl.Doc{}) {
		t.Fatalf("%s: ActsRun returns %s;\n%s\n%v", what, docText(d), replyTexts(replies), ok)
	}
}

// checkOuts compares everything that is computed from outputs with the model.
func checkOuts(t *testing.T, list []impl.Event, told []impl.Out) {
	t.Helper()
	if got, want := impl.OutsOk(list, told), modelOutsOk(list, told); got != want {
		t.Fatalf("OutsOk of\n%s\nand\n%s\nis %v", eventTexts(list), outTexts(told), got)
	}
	want, wantOk := modelWitness(list, told)
	if got, ok := impl.Witness(list, told); ok != wantOk || !slices.EqualFunc(got, want, sameAct) {
		t.Fatalf("Witness of\n%s\nand\n%s\nis\n%s\n%v, not\n%s\n%v", eventTexts(list), outTexts(told), actTexts(got), ok, actTexts(want), wantOk)
	}
	for _, session := range []int{math.MinInt, -1, 0, 1, 2, 3, 8, 9, math.MaxInt} {
		checkSession(t, list, told, session)
	}
}

func checkSession(t *testing.T, list []impl.Event, told []impl.Out, session int) {
	t.Helper()
	if got, want := impl.Waits(list, told, session), modelWaits(list, told, session); got != want {
		t.Fatalf("Waits of session %d,\n%s\nand\n%s\nis %d, not %d", session, eventTexts(list), outTexts(told), got, want)
	}
	if got, want := impl.Answers(told, session), modelAnswers(told, session); !slices.EqualFunc(got, want, sameReply) {
		t.Fatalf("Answers of session %d and\n%s\nare\n%s\nnot\n%s", session, outTexts(told), replyTexts(got), replyTexts(want))
	}
}

// checkOutsAre asserts whether outputs can be those of the events. Without that, there is neither a witness nor anyone who waits.
func checkOutsAre(t *testing.T, what string, list []impl.Event, told []impl.Out, want bool) {
	t.Helper()
	if modelOutsOk(list, told) != want {
		t.Fatalf("%s: the model of\n%s\nand\n%s\nis wrong", what, eventTexts(list), outTexts(told))
	}
	if got := impl.OutsOk(list, told); got != want {
		t.Fatalf("%s: OutsOk of\n%s\nand\n%s\nis %v", what, eventTexts(list), outTexts(told), got)
	}
	checkOuts(t, list, told)
	if want {
		return
	}
	if acts, ok := impl.Witness(list, told); ok || len(acts) > 0 {
		t.Fatalf("%s: there is a witness", what)
	}
	for session := range 10 {
		if n := impl.Waits(list, told, session); n != -1 {
			t.Fatalf("%s: session %d waits for %d", what, session, n)
		}
	}
}

// checkWitness asserts the actions, too.
func checkWitness(t *testing.T, what string, list []impl.Event, told []impl.Out, want ...impl.Act) {
	t.Helper()
	checkOutsAre(t, what, list, told, true)
	if got, ok := impl.Witness(list, told); !ok || !slices.EqualFunc(got, want, sameAct) {
		t.Fatalf("%s: the witness is\n%s\n%v, not\n%s", what, actTexts(got), ok, actTexts(want))
	}
}

// checkAtomic asserts promise 1: the witness of a run leaves the same document, and the same replies of the document.
func checkAtomic(t *testing.T, text string, list []impl.Event) []impl.Out {
	t.Helper()
	m, told, ok := impl.MachRun([]byte(text), list)
	if !ok {
		t.Fatalf("there is no run of %q and\n%s", text, eventTexts(list))
	}
	acts, fine := impl.Witness(list, told)
	if !fine || !impl.OutsOk(list, told) {
		t.Fatalf("a run of\n%s\nis told\n%s\nwithout a witness", eventTexts(list), outTexts(told))
	}
	var want []impl.Reply
	for _, out := range told {
		if !isMachineCode(out.Reply.Code) {
			want = append(want, out.Reply)
		}
	}
	d, replies, done := impl.ActsRun([]byte(text), acts)
	if !done || !sameDoc(d, m.Doc) || !slices.EqualFunc(replies, want, sameReply) {
		t.Fatalf("a run of %q and\n%s\nleaves %s;\n%s\nand its witness %s;\n%s\n%v", text, eventTexts(list), docText(m.Doc), replyTexts(want), docText(d), replyTexts(replies), done)
	}
	return told
}

// checkAnswered asserts promise 14 for a run and all its beginnings.
func checkAnswered(t *testing.T, text string, list []impl.Event, told []impl.Out) {
	t.Helper()
	m := machOf(docOf(text))
	arrived, picked := map[int]int{}, map[int]int{}
	for i, e := range list {
		before := told[:outsBefore(told, i)]
		if r, brings := modelParse(e.Data); brings && e.Kind == impl.EvFrame {
			arrived[r.Session]++
			picked[r.Session] = 0
		}
		if _, pending := modelPending(m.Ops, e.Session); pending && e.Kind == impl.EvPick {
			picked[e.Session]++
		}
		m, _, _ = modelNext(m, e)
		after := told[:outsBefore(told, i+1)]
		if len(after) > len(before)+1 {
			t.Fatalf("%s has the outputs\n%s", eventText(e), outTexts(after[len(before):]))
		}
		for session := 1; session <= 8; session++ {
			checkAnsweredAt(t, m, list[:i+1], after, session, arrived[session], picked)
		}
	}
}

// outsBefore returns how many outputs there are before the event with that index.
func outsBefore(told []impl.Out, at int) int {
	n := 0
	for n < len(told) && told[n].At < at {
		n++
	}
	return n
}

// checkAnsweredAt is given how many requests of a session have arrived, and how often sessions were picked while they had a request pending.
func checkAnsweredAt(t *testing.T, m impl.Mach, list []impl.Event, told []impl.Out, session int, arrived int, picked map[int]int) {
	t.Helper()
	wantAnswers := arrived
	if _, pending := modelPending(m.Ops, session); pending {
		wantAnswers--
	}
	if got := len(impl.Answers(told, session)); got != wantAnswers {
		t.Fatalf("session %d has %d answers to %d requests by\n%s", session, got, arrived, outTexts(told))
	}
	want, asked := picked[session]
	if !asked {
		want = -1
	}
	if got := impl.Waits(list, told, session); got != want {
		t.Fatalf("session %d waits for %d picks, not %d, in\n%s\nwith\n%s", session, got, want, eventTexts(list), outTexts(told))
	}
}

// checkPromises asserts promises 1 and 14 for a run, and compares everything else with the model.
func checkPromises(t *testing.T, text string, list []impl.Event) []impl.Out {
	t.Helper()
	told := checkAtomic(t, text, list)
	checkAnswered(t, text, list, told)
	checkOuts(t, list, told)
	acts, _ := impl.Witness(list, told)
	checkActs(t, text, acts)
	return told
}

func TestWitnessExample(t *testing.T) {
	open, put := req(impl.ReqOpen, 1, 0, 0, 0, ""), req(impl.ReqInsert, 1, 0, 0, 0, "X")
	list := []impl.Event{frame(open), pick(1), tick(2), frame(put), pick(1), pick(1), pick(1), frameOf("")}
	told := checkPromises(t, "ab", list)
	want := []impl.Out{at(1, outOf(open, 0, impl.Reply{})), at(6, outOf(put, 0, reply(0, 1, 0, ""))), at(7, impl.Out{Reply: coded(1)})}
	if !slices.EqualFunc(told, want, sameOut) {
		t.Fatalf("the run is told\n%s", outTexts(told))
	}
	checkWitness(t, "the example", list, told, doAct(0, open), tickAct(2), doAct(0, put))
	d, replies, ok := impl.ActsRun([]byte("ab"), []impl.Act{doAct(0, open), tickAct(2), doAct(0, put)})
	left := docOf("ab")
	left.Text, left.Log, left.Clock = []byte("Xab"), commits(commit(1, 0, 0, "X")), 2
	left.Members = members(member(1, 1, 1, stack(edits(edit(0, 1, "")), nil)))
	if !ok || !sameDoc(d, left) || !slices.EqualFunc(replies, []impl.Reply{{}, reply(0, 1, 0, "")}, sameReply) {
		t.Fatalf("the witness leaves %s;\n%s\n%v", docText(d), replyTexts(replies), ok)
	}
	if n := impl.Waits(list, told, 1); n != 3 {
		t.Errorf("the insertion waits for %d picks", n)
	}
	if n := impl.Waits(list[:6], told[:1], 1); n != 2 {
		t.Errorf("before its answer, the insertion waits for %d picks", n)
	}
	if impl.ActDo != 1 || impl.ActTick != 2 {
		t.Error("a constant is wrong")
	}
}

func TestActsThatDo(t *testing.T) {
	for _, r := range someReqs() {
		for _, base := range []int{0, 1, 2, 60, 61, 300, 65536, math.MaxInt - 1, math.MaxInt} {
			checkActIs(t, doAct(base, r), true)
		}
		for _, base := range []int{-1, -2, -65536, math.MinInt + 1, math.MinInt} {
			checkActIs(t, doAct(base, r), false)
		}
		for _, n := range append(extremes(), 1, 2, 1000) {
			checkActIs(t, impl.Act{Kind: impl.ActDo, N: n, Req: r}, false)
		}
	}
	for kind := 1; kind <= 16; kind++ {
		for _, r := range wrongReqs(kind) {
			checkActIs(t, doAct(0, r), false)
		}
	}
	checkActIs(t, doAct(0, impl.Req{}), false)
	checkActIs(t, doAct(0, impl.Req{Kind: impl.ReqUndo, Session: 8, Text: []byte{}}), true)
}

func TestActsThatTick(t *testing.T) {
	for _, n := range []int{1, 2, 3, 500, 999, 1000} {
		checkActIs(t, tickAct(n), true)
		checkActIs(t, impl.Act{Kind: impl.ActTick, N: n, Req: impl.Req{Text: []byte{}}}, true)
		for _, base := range append(extremes(), 1, 2, 60) {
			checkActIs(t, impl.Act{Kind: impl.ActTick, N: n, Base: base}, false)
		}
	}
	for _, n := range append(extremes(), 0) {
		checkActIs(t, tickAct(n), false)
	}
	for _, n := range append(extremes(), 1, 2, 8, 16, 65535) {
		for _, r := range []impl.Req{{Kind: n}, {Session: n}, {A: n}, {B: n}, {C: n}} {
			checkActIs(t, impl.Act{Kind: impl.ActTick, N: 1, Req: r}, false)
		}
	}
	for _, text := range []string{"a", "\x00", "\xff", strings.Repeat("a", 401)} {
		checkActIs(t, impl.Act{Kind: impl.ActTick, N: 1, Req: impl.Req{Text: []byte(text)}}, false)
	}
	for _, r := range someReqs() {
		checkActIs(t, impl.Act{Kind: impl.ActTick, N: 1, Req: r}, false)
	}
}

func TestActsOfNoKind(t *testing.T) {
	r := req(impl.ReqOpen, 1, 0, 0, 0, "")
	for _, kind := range append(extremes(), 0, 3, 4, 257, 258) {
		for _, a := range []impl.Act{{}, {N: 1}, {Req: r}, {N: 1, Req: r}, {Base: 1, Req: r}} {
			a.Kind = kind
			checkActIs(t, a, false)
		}
	}
}

// All small actions, and those of limits.
func TestAllActs(t *testing.T) {
	numbers := []int{math.MinInt, -1, 0, 1, 2, 1000, 1001, math.MaxInt}
	reqs := []impl.Req{{}, {Kind: impl.ReqOpen}, {Session: 1}, {Text: []byte("a")}, req(impl.ReqOpen, 1, 0, 0, 0, ""), req(impl.ReqOpen, 9, 0, 0, 0, ""), req(impl.ReqInsert, 8, 65535, 0, 0, "\u00e9"), req(impl.ReqInsert, 8, 65536, 0, 0, "\u00e9")}
	for kind := -1; kind <= 4; kind++ {
		for _, n := range numbers {
			for _, base := range numbers {
				for _, r := range reqs {
					a := impl.Act{Kind: kind, N: n, Base: base, Req: r}
					checkActIs(t, a, modelAct(a))
				}
			}
		}
	}
}

// refusedFrames are frames of which each has an output.
func refusedFrames(n int) ([]impl.Event, []impl.Out) {
	var list []impl.Event
	var told []impl.Out
	for i := range n {
		list = append(list, frameOf("?"))
		told = append(told, at(i, impl.Out{Reply: coded(1)}))
	}
	return list, told
}

func TestCountsOfEventsAndOutputs(t *testing.T) {
	for _, n := range []int{0, 1, 2, 3, 150, 299, 300, 301, 302, 600} {
		list, told := refusedFrames(n)
		for _, k := range []int{0, 1, n / 2, n - 1, n} {
			if k >= 0 && k <= n {
				checkOutsAre(t, fmt.Sprint(n, " events, ", k, " outputs"), list, told[:k], n <= 300)
				checkOutsAre(t, fmt.Sprint(n, " events, the last ", k, " outputs"), list, told[n-k:], n <= 300)
			}
		}
		_, more := refusedFrames(n + 1)
		checkOutsAre(t, fmt.Sprint(n, " events, and one output more"), list, more, false)
		if n > 0 {
			checkOutsAre(t, "an output more at the same event", list, append(slices.Clone(told), told[n-1]), false)
			checkOutsAre(t, "an output more at the first event", list, append([]impl.Out{told[0]}, told...), false)
		}
	}
	checkOutsAre(t, "nothing", nil, nil, true)
	checkOutsAre(t, "nothing", []impl.Event{}, []impl.Out{}, true)
	checkOutsAre(t, "an output of nothing", nil, []impl.Out{{}}, false)
	checkOutsAre(t, "an output of nothing", nil, []impl.Out{{Reply: coded(1)}}, false)
	checkOutsAre(t, "events without outputs", []impl.Event{pick(1), tick(1)}, []impl.Out{}, true)
	list, told := refusedFrames(300)
	checkOutsAre(t, "many outputs of no event", nil, told, false)
	checkOutsAre(t, "more outputs than a run has", list, slices.Concat(told, told, told), false)
}

func TestEventsThatAreNotValid(t *testing.T) {
	events, outs := refusedFrames(300)
	for _, wrong := range []impl.Event{{}, tick(0), tick(1001), pick(0), pick(9), frameOf(strings.Repeat("?", 1001)), {Kind: 4}, {Kind: impl.EvFrame, N: 1, Data: []byte("?")}, {Kind: impl.EvFrame, Session: 1, Data: []byte("?")}, {Kind: impl.EvPick, Session: 1, Data: []byte("?")}} {
		for _, n := range []int{1, 2, 3, 9, 300} {
			for _, i := range []int{0, n / 2, n - 1} {
				list := slices.Clone(events[:n])
				list[i] = wrong
				what := fmt.Sprint(eventText(wrong), " at ", i, " of ", n)
				checkOutsAre(t, what, list, nil, false)
				checkOutsAre(t, what, list, outs[:i], false)
				checkOutsAre(t, what, list, slices.Concat(outs[:i], outs[i+1:n]), false)
				checkOutsAre(t, what, list, outs[:n], false)
			}
		}
	}
}

func TestPlacesOfOutputs(t *testing.T) {
	list, told := refusedFrames(5)
	for _, n := range append(extremes(), -2, 0, 1, 2, 3, 4, 5, 6) {
		checkOutsAre(t, fmt.Sprint("one output at ", n), list, []impl.Out{at(n, told[0])}, n >= 0 && n <= 4)
	}
	// Of two outputs in all orders, and of three.
	for i := -1; i <= 5; i++ {
		for j := -1; j <= 5; j++ {
			two := []impl.Out{at(i, told[0]), at(j, told[0])}
			rising := i >= 0 && i < j && j <= 4
			checkOutsAre(t, fmt.Sprint("outputs at ", i, " and ", j), list, two, rising)
			for k := -1; k <= 5; k++ {
				checkOutsAre(t, fmt.Sprint("outputs at ", i, ", ", j, " and ", k), list, append(two[:2:2], at(k, told[0])), rising && j < k && k <= 4)
			}
		}
	}
	// The place decides which event the output must be of.
	open := req(impl.ReqOpen, 1, 0, 0, 0, "")
	mixed := []impl.Event{frame(open), frameOf("?"), pick(1), frame(open), pick(1), tick(1)}
	late, fine, refused := outOf(open, 0, coded(10)), outOf(open, 0, impl.Reply{}), impl.Out{Reply: coded(1)}
	for n := -1; n <= 6; n++ {
		checkOutsAre(t, "late", mixed, []impl.Out{at(n, late)}, n == 0 || n == 2 || n == 3 || n == 4)
		checkOutsAre(t, "fine", mixed, []impl.Out{at(n, fine)}, n == 2 || n == 4)
		checkOutsAre(t, "refused", mixed, []impl.Out{at(n, refused)}, n == 1)
	}
}

// outScene has an output at each event but the last one, which has none.
func outScene() ([]impl.Event, []impl.Out) {
	late, put := req(impl.ReqReplace, 2, 1, 3, 0, "x\u00e9"), req(impl.ReqReplace, 2, 5, 6, 0, "yz")
	list := []impl.Event{frameOf("?"), frame(late), pick(2), tick(3)}
	return list, []impl.Out{at(0, impl.Out{Reply: coded(1)}), at(1, outOf(late, 0, coded(10))), at(2, outOf(put, 4, reply(0, 5, 6, "")))}
}

// outChange makes another output of one.
type outChange struct {
	name string
	make func(out *impl.Out)
	// valid is for the three outputs of outScene.
	valid [3]bool
}

// fieldChanges turn one field of an output.
func fieldChanges() []outChange {
	var list []outChange
	for _, n := range append(extremes(), 0, 1, 2, 3, 4, 5, 8, 9, 16, 17, 1000, 65535) {
		add := func(name string, make func(out *impl.Out), refused bool, late bool, picked bool) {
			list = append(list, outChange{fmt.Sprint(name, " is ", n), make, [3]bool{refused, late, picked}})
		}
		word := n >= 0 && n <= 65535
		add("Session", func(out *impl.Out) { out.Session = n }, n == 0, n == 2, n == 2)
		add("First", func(out *impl.Out) { out.First = n }, true, true, true)
		add("Kind", func(out *impl.Out) { out.Req.Kind = n }, n == 0, n == 5, n == 5)
		add("Session of Req", func(out *impl.Out) { out.Req.Session = n }, n == 0, n == 2, n == 2)
		add("A", func(out *impl.Out) { out.Req.A = n }, n == 0, n == 1, word)
		add("B", func(out *impl.Out) { out.Req.B = n }, n == 0, n == 3, word)
		add("C", func(out *impl.Out) { out.Req.C = n }, n == 0, n == 0, n == 0)
		// A picked one has numbers in its reply, which only RepFine may have.
		add("Code", func(out *impl.Out) { out.Reply.Code = n }, n == 1, n == 10, n == 0)
		add("Code, with nothing else in Reply,", func(out *impl.Out) { out.Reply = coded(n) }, n == 1, n == 10, n >= 0 && n <= 10)
		add("A of Reply", func(out *impl.Out) { out.Reply.A = n }, n == 0, n == 0, word)
		add("B of Reply", func(out *impl.Out) { out.Reply.B = n }, n == 0, n == 0, word)
	}
	return list
}

// outTextChanges turn the texts of an output.
func outTextChanges() []outChange {
	var list []outChange
	for _, text := range append(wrongTexts(), "", "x\u00e9", "yz", strings.Repeat("\u00e9", 50), strings.Repeat("a", 101), strings.Repeat("a", 400), "x", "x\u00e9!", "x\u00e8") {
		data := []byte(text)
		list = append(list,
			outChange{fmt.Sprintf("Text is %q", text), func(out *impl.Out) { out.Req.Text = data }, [3]bool{text == "", text == "x\u00e9", isText(data) && len(data) <= 100}},
			outChange{fmt.Sprintf("Text of Reply is %q", text), func(out *impl.Out) { out.Reply.Text = data }, [3]bool{text == "", text == "", isText(data)}})
	}
	return list
}

// wholeChanges turn several fields at once.
func wholeChanges() []outChange {
	_, told := outScene()
	late := told[1].Req
	return []outChange{
		{"Session and Req are of another session", func(out *impl.Out) { out.Session, out.Req.Session = 3, 3 }, [3]bool{}},
		{"Session is none, and Req zero", func(out *impl.Out) { out.Session, out.Req = 0, impl.Req{} }, [3]bool{true, false, false}},
		{"it is zero", func(out *impl.Out) { *out = impl.Out{At: out.At} }, [3]bool{}},
		{"it is refused", func(out *impl.Out) { *out = impl.Out{At: out.At, Reply: coded(1)} }, [3]bool{true, false, false}},
		{"it is late", func(out *impl.Out) { *out = at(out.At, outOf(late, 0, coded(10))) }, [3]bool{false, true, true}},
		{"it is another request of the session", func(out *impl.Out) { out.Session, out.Req = 2, req(impl.ReqUndo, 2, 0, 0, 0, "") }, [3]bool{false, false, true}},
		{"it is fine", func(out *impl.Out) { out.Reply = reply(0, 1, 2, "a") }, [3]bool{false, false, true}},
		{"it is refused, with a text", func(out *impl.Out) { out.Reply = reply(1, 0, 0, "a") }, [3]bool{}},
		{"it is late, with a number", func(out *impl.Out) { out.Reply = reply(10, 1, 0, "") }, [3]bool{}},
		{"it is of the event behind it", func(out *impl.Out) { *out = at(out.At, told[min(out.At+1, 2)]) }, [3]bool{false, false, true}},
	}
}

func TestOutputsWithOtherFields(t *testing.T) {
	list, told := outScene()
	checkWitness(t, "the scene", list, told, doAct(4, told[2].Req), tickAct(3))
	for _, c := range slices.Concat(fieldChanges(), outTextChanges(), wholeChanges()) {
		for n := range told {
			turned := slices.Clone(told)
			c.make(&turned[n])
			what := fmt.Sprint("output ", n, ": ", c.name)
			checkOutsAre(t, what, list, turned, c.valid[n])
			checkOutsAre(t, what, list, turned[n:n+1], c.valid[n])
			// At the tick, nothing is told.
			turned[n].At = 3
			checkOutsAre(t, what, list, append(slices.Clone(told[:n]), turned[n]), false)
			checkOutsAre(t, what, list, append(slices.Clone(told), turned[n]), false)
		}
	}
}

// A request that is not valid in one field is told at no event.
func TestOutputsOfWrongRequests(t *testing.T) {
	for kind := 1; kind <= 16; kind++ {
		for _, r := range wrongReqs(kind) {
			out := outOf(r, 0, impl.Reply{})
			out.Session = 1
			checkOutsAre(t, reqText(r), []impl.Event{pick(1)}, []impl.Out{out}, false)
			out.Session = r.Session
			checkOutsAre(t, reqText(r), []impl.Event{pick(1)}, []impl.Out{out}, false)
			out.Reply.Code = impl.RepLate
			if _, brings := modelParse(rawReq(r)); !brings && len(rawReq(r)) <= 1000 {
				checkOutsAre(t, reqText(r), []impl.Event{frame(r)}, []impl.Out{out}, false)
				checkOutsAre(t, reqText(r), []impl.Event{frame(r)}, []impl.Out{{Reply: coded(1)}}, true)
			}
		}
	}
}

// Each valid request may be told at a pick of its session, and at its frame only as RepLate.
func TestOutputsOfAllRequests(t *testing.T) {
	for _, r := range append(someReqs(), fittingReqs()...) {
		for code := -1; code <= 11; code++ {
			out := outOf(r, 0, coded(code))
			picked := code >= 0 && code <= 10
			checkOutsAre(t, reqText(r), []impl.Event{pick(r.Session)}, []impl.Out{out}, picked)
			checkOutsAre(t, reqText(r), []impl.Event{pick(r.Session%8 + 1)}, []impl.Out{out}, false)
			checkOutsAre(t, reqText(r), []impl.Event{frame(r)}, []impl.Out{out}, code == 10)
			checkOutsAre(t, reqText(r), []impl.Event{frame(r)}, []impl.Out{{Reply: coded(code)}}, false)
		}
	}
}

// fittingReqs are of all sessions.
func fittingReqs() []impl.Req {
	var list []impl.Req
	for session := 1; session <= 8; session++ {
		list = append(list, req(impl.ReqUndo, session, 0, 0, 0, ""), req(impl.ReqInsert, session, 3, 0, 0, "\u20ac"))
	}
	return list
}

func TestNegativeFirsts(t *testing.T) {
	list, told := outScene()
	for _, first := range []int{math.MinInt, -2, -1, 0, 1, 60, 61, math.MaxInt} {
		for code := 0; code <= 10; code++ {
			turned := slices.Clone(told)
			turned[0].First, turned[1].First = -1, math.MinInt
			turned[2].First, turned[2].Reply = first, coded(code)
			what := fmt.Sprint("First ", first, " with the code ", code)
			checkOutsAre(t, what, list, turned, true)
			switch acts, ok := impl.Witness(list, turned); {
			case isMachineCode(code):
				checkWitness(t, what, list, turned, tickAct(3))
			case first >= 0:
				checkWitness(t, what, list, turned, doAct(first, turned[2].Req), tickAct(3))
			case ok || len(acts) > 0:
				t.Fatalf("%s: the witness is\n%s\n%v", what, actTexts(acts), ok)
			}
		}
	}
	// The first, the second, or the last of three.
	r := req(impl.ReqUndo, 1, 0, 0, 0, "")
	for n := range 3 {
		all := []impl.Out{at(1, outOf(r, 2, impl.Reply{})), at(2, outOf(r, 3, coded(7))), at(4, outOf(r, 0, reply(0, 1, 2, "a")))}
		events := []impl.Event{tick(1), pick(1), pick(1), tick(2), pick(1)}
		checkWitness(t, "without a negative First", events, all, tickAct(1), doAct(2, r), doAct(3, r), tickAct(2), doAct(0, r))
		all[n].First = -1
		if acts, ok := impl.Witness(events, all); ok || len(acts) > 0 || !impl.OutsOk(events, all) {
			t.Fatalf("output %d: the witness is\n%s\n%v", n, actTexts(acts), ok)
		}
		checkOuts(t, events, all)
	}
}

// Ticks and what the document has answered, in the order of their events, and nothing else.
func TestOrderOfTheWitness(t *testing.T) {
	r1, r2, r3 := req(impl.ReqInsert, 1, 4, 0, 0, "\u00e9"), req(impl.ReqLock, 2, 1, 2, 3, ""), req(impl.ReqUndo, 3, 0, 0, 0, "")
	list := []impl.Event{tick(5), frame(r1), pick(1), pick(2), tick(1), tick(1000), frameOf("?"), pick(3), frame(r2), tick(7), pick(1), pick(2)}
	told := []impl.Out{at(2, outOf(r1, 9, coded(6))), at(3, outOf(r2, 0, impl.Reply{})), at(6, impl.Out{Reply: coded(1)}), at(7, outOf(r3, 0, coded(9))), at(8, outOf(r2, 0, coded(10))), at(10, outOf(r1, 8, reply(0, 9, 4, ""))), at(11, outOf(r2, 1, coded(6)))}
	checkWitness(t, "all", list, told, tickAct(5), doAct(9, r1), doAct(0, r2), tickAct(1), tickAct(1000), tickAct(7), doAct(8, r1), doAct(1, r2))
	checkWitness(t, "no outputs", list, nil, tickAct(5), tickAct(1), tickAct(1000), tickAct(7))
	checkWitness(t, "one output", list, told[5:6], tickAct(5), tickAct(1), tickAct(1000), tickAct(7), doAct(8, r1))
	checkWitness(t, "none of the document", list, told[2:5], tickAct(5), tickAct(1), tickAct(1000), tickAct(7))
	checkWitness(t, "the last two", list[10:], []impl.Out{at(0, told[5]), at(1, told[6])}, doAct(8, r1), doAct(1, r2))
	checkWitness(t, "nothing", nil, nil)
	checkWitness(t, "what is not answered", list[1:4], nil)
	for code := 0; code <= 10; code++ {
		var want []impl.Act
		if !isMachineCode(code) {
			want = []impl.Act{doAct(7, r3)}
		}
		checkWitness(t, fmt.Sprint("code ", code), []impl.Event{pick(3)}, []impl.Out{outOf(r3, 7, coded(code))}, want...)
	}
	// As many actions as events.
	var many []impl.Event
	var outs []impl.Out
	var acts []impl.Act
	for i := range 150 {
		many = append(many, pick(3), tick(i+1))
		outs = append(outs, at(2*i, outOf(r3, i, coded(7))))
		acts = append(acts, doAct(i, r3), tickAct(i+1))
	}
	checkWitness(t, "300 actions", many, outs, acts...)
	checkActs(t, "ab", acts)
}

// opened are the actions by which sessions become members.
func opened(sessions ...int) []impl.Act {
	var list []impl.Act
	for _, session := range sessions {
		list = append(list, doAct(0, req(impl.ReqOpen, session, 0, 0, 0, "")))
	}
	return list
}

// exchange is an action and its reply, which a tick has not.
type exchange struct {
	act     impl.Act
	replied []impl.Reply
}

func asked(base int, r impl.Req, replied impl.Reply) exchange {
	return exchange{doAct(base, r), []impl.Reply{replied}}
}

// talk has a reply of each code that a document can give.
func talk() []exchange {
	long := strings.Repeat("a", 100)
	return []exchange{
		asked(0, req(impl.ReqOpen, 1, 0, 0, 0, ""), impl.Reply{}),
		asked(0, req(impl.ReqOpen, 2, 0, 0, 0, ""), impl.Reply{}),
		asked(0, req(impl.ReqInsert, 1, 1, 0, 0, "X\n"), reply(0, 1, 1, "")),
		asked(0, req(impl.ReqInsert, 2, 1, 0, 0, "Y"), reply(0, 2, 3, "")),
		asked(3, req(impl.ReqInsert, 2, 1, 0, 0, "Y"), coded(impl.RepForm)),
		asked(math.MaxInt, req(impl.ReqOpen, 3, 0, 0, 0, ""), coded(impl.RepForm)),
		asked(0, req(impl.ReqUndo, 3, 0, 0, 0, ""), coded(impl.RepWho)),
		asked(2, req(impl.ReqOpen, 2, 0, 0, 0, ""), coded(impl.RepTwice)),
		asked(1, req(impl.ReqRead, 1, 0, 5, 0, ""), reply(0, 0, 0, "aX\nYb")),
		asked(2, req(impl.ReqRead, 1, 0, 6, 0, ""), coded(impl.RepRange)),
		asked(0, req(impl.ReqDelete, 1, 0, 3, 0, ""), coded(impl.RepRange)),
		asked(2, req(impl.ReqLock, 1, 0, 3, 1000, ""), impl.Reply{}),
		asked(2, req(impl.ReqInsert, 2, 1, 0, 0, "Z"), coded(impl.RepLocked)),
		asked(2, req(impl.ReqLine, 2, 4, 0, 0, ""), reply(0, 1, 1, "")),
		asked(0, req(impl.ReqUndo, 2, 0, 0, 0, ""), reply(0, 3, 3, "")),
		asked(3, req(impl.ReqFind, 1, 0, 0, 0, "Y"), coded(impl.RepNone)),
		asked(3, req(impl.ReqLock, 2, 3, 4, 0, ""), coded(impl.RepClock)),
		asked(3, req(impl.ReqInsert, 1, 0, 0, 0, long), reply(0, 4, 0, "")),
		asked(3, req(impl.ReqInsert, 1, 0, 0, 0, long), reply(0, 5, 100, "")),
		asked(5, req(impl.ReqInsert, 1, 0, 0, 0, long), reply(0, 6, 0, "")),
		asked(6, req(impl.ReqInsert, 1, 0, 0, 0, long), coded(impl.RepFull)),
		{act: tickAct(999)},
		asked(6, req(impl.ReqInsert, 2, 301, 0, 0, "Z"), coded(impl.RepLocked)),
		{act: tickAct(1)},
		asked(6, req(impl.ReqInsert, 2, 301, 0, 0, "Z"), reply(0, 7, 301, "")),
		{act: tickAct(1000)},
		asked(6, req(impl.ReqLock, 2, 0, 3, 1, ""), coded(impl.RepClock)),
		asked(0, req(impl.ReqClose, 1, 0, 0, 0, ""), impl.Reply{}),
		asked(0, req(impl.ReqRedo, 1, 0, 0, 0, ""), coded(impl.RepWho)),
	}
}

func actsOf(list []exchange) ([]impl.Act, []impl.Reply) {
	var acts []impl.Act
	var replies []impl.Reply
	for _, x := range list {
		acts, replies = append(acts, x.act), append(replies, x.replied...)
	}
	return acts, replies
}

func TestActsWithRepliesOfEachCode(t *testing.T) {
	list := talk()
	seen := map[int]bool{}
	for n := range len(list) + 1 {
		acts, want := actsOf(list[:n])
		if _, replies, ok := checkActs(t, "ab", acts); !ok || !slices.EqualFunc(replies, want, sameReply) {
			t.Fatalf("%d actions are replied\n%s\nnot\n%s", n, replyTexts(replies), replyTexts(want))
		}
		for _, r := range want {
			seen[r.Code] = true
		}
	}
	for code := impl.RepFine; code < impl.RepBusy; code++ {
		if !seen[code] {
			t.Errorf("no reply has the code %d", code)
		}
	}
	acts, _ := actsOf(list)
	d, _, _ := impl.ActsRun([]byte("ab"), acts)
	if want := strings.Repeat("a", 300) + "aZX\nb"; string(d.Text) != want || string(d.Start) != "ab" || len(d.Log) != 7 || d.Clock != 1000 || len(d.Members) != 1 || len(d.Leases) != 0 {
		t.Errorf("the actions leave %s", docText(d))
	}
}

func TestCountsOfActs(t *testing.T) {
	undo := doAct(0, req(impl.ReqUndo, 1, 0, 0, 0, ""))
	var list []impl.Act
	for n := range 310 {
		d, replies, ok := checkActs(t, "ab", list)
		if ok != (n <= 300) || ok && (len(replies) != n/2 || d.Clock != (n+1)/2) {
			t.Fatalf("%d actions leave %s;\n%s\n%v", n, docText(d), replyTexts(replies), ok)
		}
		if n > 300 {
			checkNoActs(t, fmt.Sprint(n, " actions"), "ab", list)
		}
		list = append(list, []impl.Act{tickAct(1), undo}[n%2])
	}
	checkNoActs(t, "600 actions", "ab", slices.Concat(list[:300], list[:300]))
	for _, text := range []string{"", "ab", "a\u00e9\n", strings.Repeat("\u00e9", 200)} {
		for _, none := range [][]impl.Act{nil, {}} {
			if d, replies, ok := checkActs(t, text, none); !ok || len(replies) > 0 || !sameDoc(d, docOf(text)) {
				t.Errorf("no action leaves %s;\n%s\n%v", docText(d), replyTexts(replies), ok)
			}
		}
	}
	if d, replies, ok := impl.ActsRun(nil, nil); !ok || len(replies) > 0 || !sameDoc(d, impl.Doc{}) {
		t.Errorf("nothing leaves %s;\n%s\n%v", docText(d), replyTexts(replies), ok)
	}
}

func TestActsOnNoText(t *testing.T) {
	acts, _ := actsOf(talk())
	many := slices.Repeat([]impl.Act{tickAct(1)}, 301)
	for _, text := range wrongTexts() {
		checkNoActs(t, "no text", text, nil)
		checkNoActs(t, "no text", text, acts)
		checkNoActs(t, "no text, and no action", text, []impl.Act{{}})
		checkNoActs(t, "no text, and too many actions", text, many)
	}
}

func TestActsThatAreNotValid(t *testing.T) {
	acts, _ := actsOf(talk())
	undo := req(impl.ReqUndo, 1, 0, 0, 0, "")
	for _, wrong := range []impl.Act{{}, {Kind: 3, N: 1}, tickAct(0), tickAct(-1), tickAct(1001), {Kind: impl.ActTick, N: 1, Base: 1}, {Kind: impl.ActTick, N: 1, Req: undo}, doAct(-1, undo), doAct(math.MinInt, undo), doAct(0, impl.Req{}), {Kind: impl.ActDo, N: 1, Req: undo}, doAct(0, req(impl.ReqUndo, 9, 0, 0, 0, "")), doAct(0, req(impl.ReqInsert, 1, 0, 0, 0, "\xff"))} {
		checkActIs(t, wrong, false)
		for _, n := range []int{0, 1, len(acts) / 2, len(acts) - 1} {
			list := slices.Clone(acts)
			list[n] = wrong
			checkNoActs(t, fmt.Sprint(actText(wrong), " at ", n), "ab", list)
		}
		for _, n := range []int{0, 150, 299} {
			list := slices.Repeat([]impl.Act{tickAct(1)}, 300)
			list[n] = wrong
			checkNoActs(t, fmt.Sprint(actText(wrong), " at ", n, " of 300"), "ab", list)
		}
		checkNoActs(t, "twice", "ab", []impl.Act{wrong, wrong})
	}
}

// numbered are outputs of three sessions, each with another reply. No run has them.
func numbered(n int) []impl.Out {
	var list []impl.Out
	for i := range n {
		list = append(list, impl.Out{At: 7 - i, Session: 1 + i%3, First: -i, Reply: reply(i%13, i, -i, fmt.Sprint("reply ", i))})
	}
	return list
}

func TestAnswers(t *testing.T) {
	for _, n := range []int{0, 1, 2, 3, 4, 7, 150, 299, 300, 301, 302, 600} {
		list := numbered(n)
		for session := -1; session <= 9; session++ {
			var want []impl.Reply
			for i := session - 1; session >= 1 && session <= 3 && i < n && n <= 300; i += 3 {
				want = append(want, reply(i%13, i, -i, fmt.Sprint("reply ", i)))
			}
			if got := impl.Answers(list, session); !slices.EqualFunc(got, want, sameReply) {
				t.Fatalf("of %d outputs, session %d has the answers\n%s\nnot\n%s", n, session, replyTexts(got), replyTexts(want))
			}
		}
	}
	for _, n := range append(extremes(), 0, 9) {
		list := append(numbered(5), impl.Out{Session: n, Reply: reply(77, math.MinInt, math.MaxInt, "\xff")})
		if got := impl.Answers(list, n); len(got) != 1 || !sameReply(got[0], list[5].Reply) {
			t.Errorf("session %d has the answers\n%s", n, replyTexts(got))
		}
		if got := impl.Answers(list[:5], n); len(got) > 0 {
			t.Errorf("session %d has the answers\n%s", n, replyTexts(got))
		}
	}
	// One output too many, though only one is of the session.
	list := append(numbered(300), impl.Out{Session: 4})
	if got := impl.Answers(list, 4); len(got) > 0 {
		t.Errorf("of 301 outputs, one session has the answers\n%s", replyTexts(got))
	}
	if got := impl.Answers(list[1:], 4); len(got) != 1 {
		t.Errorf("of 300 outputs, one session has the answers\n%s", replyTexts(got))
	}
	if impl.Answers(nil, 1) != nil || len(impl.Answers([]impl.Out{}, 0)) > 0 || len(impl.Answers(nil, 0)) > 0 {
		t.Error("there are answers without outputs")
	}
	long := strings.Repeat("\u00e9", 300)
	if got := impl.Answers([]impl.Out{{Session: 1, Reply: reply(0, 0, 0, long)}}, 1); len(got) != 1 || string(got[0].Text) != long {
		t.Errorf("the answers are\n%s", replyTexts(got))
	}
}

// What is refused is told to nobody, and what is late at once.
func TestAnswersOfARun(t *testing.T) {
	open, put, leave := req(impl.ReqOpen, 2, 0, 0, 0, ""), req(impl.ReqInsert, 2, 0, 0, 0, "\u00e9"), req(impl.ReqClose, 2, 0, 0, 0, "")
	list := []impl.Event{frame(open), frame(open), pick(2), frameOf("?"), frame(put), frame(leave), pick(2), pick(2), frame(put), frameOf(""), pick(2), frame(leave)}
	told := checkPromises(t, "ab", list)
	late := coded(impl.RepLate)
	if got, want := impl.Answers(told, 2), []impl.Reply{late, {}, late, late, reply(0, 1, 0, "")}; !slices.EqualFunc(got, want, sameReply) {
		t.Errorf("session 2 is told\n%s", replyTexts(got))
	}
	if got, want := impl.Answers(told, 0), []impl.Reply{coded(impl.RepForm), coded(impl.RepForm)}; !slices.EqualFunc(got, want, sameReply) {
		t.Errorf("nobody is told\n%s", replyTexts(got))
	}
	// The last request is pending, and was never picked.
	if n := impl.Waits(list, told, 2); n != 0 {
		t.Errorf("session 2 waits for %d picks", n)
	}
}

// waiting says how often session 1 was picked while its last request was pending.
type waiting struct {
	name string
	list []impl.Event
	told []impl.Out
	want int
}

func eventsOf(list ...impl.Event) []impl.Event {
	return list
}

func outsOf(list ...impl.Out) []impl.Out {
	return list
}

// askedOnce are cases in which session 1 asks once, or never.
func askedOnce() []waiting {
	r, other := req(impl.ReqUndo, 1, 0, 0, 0, ""), req(impl.ReqUndo, 2, 0, 0, 0, "")
	f, p, o, bad := frame(r), pick(1), pick(2), frameOf("?")
	done := outOf(r, 0, impl.Reply{})
	return []waiting{
		{"no events", nil, nil, -1},
		{"no frame", eventsOf(p, p, tick(1)), nil, -1},
		{"no frame, but answers", eventsOf(p, o, p), outsOf(at(0, done), at(2, done)), -1},
		{"a frame of another session", eventsOf(frame(other), o, p), outsOf(at(2, done)), -1},
		{"a frame that is no request", eventsOf(bad, p), outsOf(at(0, impl.Out{Reply: coded(1)})), -1},
		{"a frame of a request that is not valid", eventsOf(frame(req(impl.ReqUndo, 1, 1, 0, 0, "")), p), nil, -1},
		{"a frame of a request of no kind", eventsOf(frame(req(17, 1, 0, 0, 0, "")), p), nil, -1},
		{"a frame that is too long", eventsOf(frameOf(string(rawReq(r))+"\x00"), p), nil, -1},
		{"it has just arrived", eventsOf(f), nil, 0},
		{"it has arrived after picks", eventsOf(p, p, o, f), nil, 0},
		{"it has arrived after picks and answers", eventsOf(p, p, o, f), outsOf(at(0, done), at(1, done)), 0},
		{"it was never picked", eventsOf(f, o, tick(1), bad, o), nil, 0},
		{"it was picked once", eventsOf(f, p), nil, 1},
		{"it was picked before and after", eventsOf(p, p, f, p), nil, 1},
		{"it was picked three times", eventsOf(f, p, p, p), nil, 3},
		{"it was picked along with others", eventsOf(o, f, o, p, tick(1), o, p, o), nil, 2},
		{"it was picked along with frames", eventsOf(f, p, bad, frame(other), p), outsOf(at(2, impl.Out{Reply: coded(1)})), 2},
		{"it was answered at its first pick", eventsOf(f, p), outsOf(at(1, done)), 1},
		{"it was answered at its last pick", eventsOf(f, p, p, p), outsOf(at(3, done)), 3},
		{"it was answered before its last pick", eventsOf(f, p, p, p, p), outsOf(at(2, done)), 2},
		{"it was answered between others", eventsOf(f, p, o, p, o, p), outsOf(at(3, done)), 2},
		{"it was answered twice", eventsOf(f, p, p, p), outsOf(at(2, done), at(3, done)), 2},
		{"it was answered at each pick", eventsOf(f, p, p, p), outsOf(at(1, done), at(2, done), at(3, done)), 1},
		{"others were answered", eventsOf(f, o, p, o, p), outsOf(at(1, outOf(other, 0, impl.Reply{})), at(3, outOf(other, 0, coded(9)))), 2},
		{"others were answered, and then it", eventsOf(f, o, p, o, p, p), outsOf(at(1, outOf(other, 0, impl.Reply{})), at(4, done)), 2},
		{"others were late", eventsOf(f, frame(other), p, frame(other), p), outsOf(at(1, outOf(other, 0, coded(10))), at(3, outOf(other, 0, coded(10)))), 2},
		{"answers were ahead of it", eventsOf(p, p, f, p, p), outsOf(at(0, done), at(1, done)), 2},
		{"answers were ahead of it, and after it", eventsOf(p, p, f, p, p, p), outsOf(at(0, done), at(1, done), at(4, done)), 2},
	}
}

// askedAgain are cases in which session 1 asks more than once. What is late is told at once, and ends no waiting.
func askedAgain() []waiting {
	r := req(impl.ReqUndo, 1, 0, 0, 0, "")
	f, p, o := frame(r), pick(1), pick(2)
	done, late := outOf(r, 0, impl.Reply{}), outOf(r, 0, coded(10))
	return []waiting{
		{"it has just arrived again", eventsOf(f, p, p, f), outsOf(at(2, done)), 0},
		{"it was answered, and asked again", eventsOf(f, p, p, f, p), outsOf(at(2, done)), 1},
		{"both were answered", eventsOf(f, p, p, f, p, p, p), outsOf(at(2, done), at(5, done)), 2},
		{"three times", eventsOf(f, p, f, p, p, f, p, p, p, p), outsOf(at(1, done), at(4, done), at(8, done)), 3},
		{"asked twice, without an output", eventsOf(f, p, p, f, p), nil, 1},
		{"late at the end", eventsOf(f, p, p, f), outsOf(at(3, late)), 0},
		{"late, and others were picked", eventsOf(f, p, f, o, tick(1)), outsOf(at(2, late)), 0},
		{"late, and picked again", eventsOf(f, p, p, f, p), outsOf(at(3, late)), 1},
		{"late, and picked often", eventsOf(f, p, f, p, p, p), outsOf(at(2, late)), 3},
		{"late, and answered later", eventsOf(f, p, f, p, p, p), outsOf(at(2, late), at(4, done)), 2},
		{"late, and answered at once after that", eventsOf(f, p, f, p, p), outsOf(at(2, late), at(3, done)), 1},
		{"late twice", eventsOf(f, p, f, p, p, f, p), outsOf(at(2, late), at(5, late)), 1},
		{"late twice, and answered", eventsOf(f, f, f, p, p, p), outsOf(at(1, late), at(2, late), at(4, done)), 2},
		{"late, answered, and asked again", eventsOf(f, f, p, f, p, p), outsOf(at(1, late), at(2, done)), 2},
		{"late as the first", eventsOf(f, p, p), outsOf(at(0, late)), 2},
		{"late as the first, and answered", eventsOf(f, p, p), outsOf(at(0, late), at(1, done)), 1},
	}
}

func TestWaits(t *testing.T) {
	for _, x := range append(askedOnce(), askedAgain()...) {
		if got := modelWaits(x.list, x.told, 1); got != x.want {
			t.Fatalf("%s: the model is %d, not %d", x.name, got, x.want)
		}
		if got := impl.Waits(x.list, x.told, 1); got != x.want {
			t.Errorf("%s: session 1 waits for %d picks, not %d", x.name, got, x.want)
		}
		checkOutsAre(t, x.name, x.list, x.told, true)
		// Whatever it is told by the document, it waits no longer.
		for code := 0; code <= 10; code++ {
			turned := slices.Clone(x.told)
			for i := range turned {
				if x.list[turned[i].At].Kind == impl.EvPick {
					turned[i].Reply, turned[i].First = coded(code), -code
				}
			}
			if got := impl.Waits(x.list, turned, 1); got != x.want {
				t.Errorf("%s, with the code %d: session 1 waits for %d picks, not %d", x.name, code, got, x.want)
			}
		}
		// Outputs that cannot be those of the events.
		if n := len(x.list); n > 0 {
			checkOutsAre(t, x.name, x.list, append(slices.Clone(x.told), impl.Out{At: n}), false)
			checkOutsAre(t, x.name, append(slices.Clone(x.list), impl.Event{}), x.told, false)
		}
	}
}

// Sessions that are none ask for nothing, also where something was refused.
func TestWaitsOfNobody(t *testing.T) {
	list, told := outScene()
	for _, session := range append(extremes(), 0, 1, 3, 8, 9) {
		if n := impl.Waits(list, told, session); n != -1 {
			t.Errorf("session %d waits for %d picks", session, n)
		}
		checkSession(t, list, told, session)
	}
	if n := impl.Waits(list, told, 2); n != 1 {
		t.Errorf("session 2 waits for %d picks", n)
	}
}

// In a run, too, what is late leaves the request before it pending.
func TestWaitsOfLateRequestsInARun(t *testing.T) {
	open, put := req(impl.ReqOpen, 1, 0, 0, 0, ""), req(impl.ReqInsert, 1, 1, 0, 0, "X")
	list := []impl.Event{frame(open), pick(1), frame(put), pick(1), frame(put), pick(1), pick(1), pick(1)}
	wants := []int{-1, 0, 1, 0, 1, 0, 1, 2, 2}
	for n, want := range wants {
		told := checkPromises(t, "ab", list[:n])
		if got := impl.Waits(list[:n], told, 1); got != want {
			t.Errorf("after %d events, session 1 waits for %d picks, not %d", n, got, want)
		}
	}
}

// sequences calls f with all sequences of n of these events.
func sequences(all []impl.Event, n int, f func(list []impl.Event)) {
	list := make([]impl.Event, n)
	var fill func(at int)
	fill = func(at int) {
		if at == n {
			f(slices.Clone(list))
			return
		}
		for _, e := range all {
			list[at] = e
			fill(at + 1)
		}
	}
	fill(0)
}

// All short runs of one session, and of two that commit between each other's stages.
func TestAllShortRuns(t *testing.T) {
	t.Parallel()
	start := []impl.Event{frame(req(impl.ReqOpen, 1, 0, 0, 0, "")), pick(1), frame(req(impl.ReqOpen, 2, 0, 0, 0, "")), pick(2)}
	put1, put2 := frame(req(impl.ReqInsert, 1, 1, 0, 0, "X")), frame(req(impl.ReqReplace, 2, 0, 2, 0, "Y\u00e9"))
	sequences([]impl.Event{put1, pick(1)}, 8, func(list []impl.Event) {
		checkPromises(t, "ab", slices.Concat(start, list))
	})
	sequences([]impl.Event{frame(req(impl.ReqUndo, 1, 0, 0, 0, "")), frameOf("?"), pick(1), tick(1)}, 4, func(list []impl.Event) {
		checkPromises(t, "ab", list)
	})
	under := slices.Concat(start, []impl.Event{put1, put2, pick(1), pick(2)})
	texts := map[string]int{}
	sequences([]impl.Event{put1, pick(1), pick(2)}, 6, func(list []impl.Event) {
		all := slices.Concat(under, list)
		checkPromises(t, "ab", all)
		m, _, _ := impl.MachRun([]byte("ab"), all)
		texts[string(m.Doc.Text)]++
	})
	for _, text := range []string{"ab", "aXb", "Y\u00e9"} {
		if texts[text] == 0 {
			t.Errorf("%q was never left: %v", text, texts)
		}
	}
}

// Both promises for random runs with requests of all kinds and all codes.
func TestWitnessesOfRandomRuns(t *testing.T) {
	t.Parallel()
	random := rand.New(rand.NewSource(121))
	done := map[[2]int]int{}
	moved := 0
	for n := range 60 {
		text, list, _ := randomRun(random, n)
		told := checkPromises(t, text, list)
		countCodes(done, told)
		moved += countMoved(told)
	}
	checkCodes(t, done, 2, allCodes()...)
	if moved < 50 {
		t.Errorf("only %d edits were committed after others", moved)
	}
}

// countMoved counts the edits that were committed at a version later than the one they were planned at.
func countMoved(told []impl.Out) int {
	n := 0
	for _, out := range told {
		if impl.ReqEdits(out.Req) && out.Reply.Code == impl.RepFine && out.Reply.A > out.First+1 {
			n++
		}
	}
	return n
}

// A witness is not only right at the end of a run, but after each of its events.
func TestWitnessesOfBeginnings(t *testing.T) {
	t.Parallel()
	random := rand.New(rand.NewSource(122))
	for n := range 6 {
		text, list, _ := randomRun(random, 4*n+2)
		_, whole, _ := impl.MachRun([]byte(text), list)
		all, _ := impl.Witness(list, whole)
		for k := range len(list) + 1 {
			told := checkAtomic(t, text, list[:k])
			acts, ok := impl.Witness(list[:k], told)
			if !ok || len(acts) > len(all) || !slices.EqualFunc(acts, all[:len(acts)], sameAct) {
				t.Fatalf("the witness of the first %d events is\n%s\n%v", k, actTexts(acts), ok)
			}
		}
	}
}

// turnedOut changes something about the outputs, which are then mostly not those of a run.
func turnedOut(random *rand.Rand, list []impl.Event, told []impl.Out) []impl.Out {
	turned := slices.Clone(told)
	if len(turned) == 0 {
		return outsOf(at(random.Intn(len(list)), impl.Out{Reply: coded(random.Intn(12))}))
	}
	n := random.Intn(len(turned))
	changes := slices.Concat(fieldChanges(), outTextChanges())
	switch random.Intn(6) {
	case 0:
		return slices.Delete(turned, n, n+1)
	case 1:
		turned[n].At += random.Intn(3) - 1
	case 2:
		k := random.Intn(len(turned))
		turned[n], turned[k] = turned[k], turned[n]
	case 3:
		turned[n].Reply.Code = random.Intn(12)
	default:
		changes[random.Intn(len(changes))].make(&turned[n])
	}
	return turned
}

func TestOutputsThatWereTurned(t *testing.T) {
	t.Parallel()
	random := rand.New(rand.NewSource(123))
	valid, invalid := 0, 0
	for n := range 20 {
		_, list, _ := randomRun(random, 4*n+2+n%2)
		_, told, _ := impl.MachRun(nil, list)
		for range 60 {
			k := 1 + random.Intn(len(list))
			turned := turnedOut(random, list[:k], told[:outsBefore(told, k)])
			checkOuts(t, list[:k], turned)
			if impl.OutsOk(list[:k], turned) {
				valid++
			} else {
				invalid++
			}
		}
	}
	if valid < 100 || invalid < 300 {
		t.Errorf("%d lists of outputs are valid, and %d are not", valid, invalid)
	}
}

// Actions of which no run is the origin.
func TestRandomActs(t *testing.T) {
	t.Parallel()
	random := rand.New(rand.NewSource(124))
	codes := map[int]int{}
	for n := range 40 {
		text := textOf(randomRope(random, 40))
		list := opened(1, 2, 3)
		d, _, _ := impl.ActsRun([]byte(text), list)
		for len(list) < []int{20, 100, 300}[n%3] {
			r, base := randomDocReq(random, d)
			a := doAct(max(base, 0), r)
			if random.Intn(8) == 0 {
				a = tickAct(1 + random.Intn(3))
			}
			if !modelAct(a) {
				continue
			}
			list = append(list, a)
			d, _ = modelAfter(d, a)
		}
		got, replies, ok := checkActs(t, text, list)
		if !ok || !sameDoc(got, d) {
			t.Fatalf("the actions\n%s\nleave %s, not %s", actTexts(list), docText(got), docText(d))
		}
		for _, r := range replies {
			codes[r.Code]++
		}
		list[random.Intn(len(list))] = []impl.Act{{}, tickAct(0), doAct(-1, req(impl.ReqUndo, 1, 0, 0, 0, ""))}[n%3]
		checkNoActs(t, "random actions", text, list)
	}
	for code := impl.RepFine; code < impl.RepBusy; code++ {
		if codes[code] == 0 {
			t.Errorf("no reply has the code %d", code)
		}
	}
	if codes[impl.RepBusy]+codes[impl.RepLate] > 0 {
		t.Errorf("a document has replied %v", codes)
	}
}

// modelAfter is meant for a valid document and a valid action.
func modelAfter(d impl.Doc, a impl.Act) (impl.Doc, impl.Reply) {
	if a.Kind == impl.ActTick {
		d, _ = modelTick(d, a.N)
		return d, impl.Reply{}
	}
	return modelDocDo(d, a.Req, a.Base)
}

// witnessArgs are the arguments of all functions of this chapter.
type witnessArgs struct {
	Text    []byte
	Acts    []impl.Act
	List    []impl.Event
	Told    []impl.Out
	Session int
}

// witnessResult is all that a function returns.
type witnessResult struct {
	Doc     impl.Doc
	Acts    []impl.Act
	Replies []impl.Reply
	N       int
	Ok      bool
}

func witnessResultText(x witnessResult) string {
	return fmt.Sprintf("%s;\n%s\n%s; %d; %v", docText(x.Doc), actTexts(x.Acts), replyTexts(x.Replies), x.N, x.Ok)
}

func witnessCalls() map[string]func(witnessArgs) witnessResult {
	return map[string]func(witnessArgs) witnessResult{
		"ActOk": func(a witnessArgs) witnessResult {
			return witnessResult{Ok: len(a.Acts) > 0 && impl.ActOk(a.Acts[0])}
		},
		"Witness": func(a witnessArgs) witnessResult {
			acts, ok := impl.Witness(a.List, a.Told)
			return witnessResult{Acts: acts, Ok: ok}
		},
		"ActsRun": func(a witnessArgs) witnessResult {
			d, replies, ok := impl.ActsRun(a.Text, a.Acts)
			return witnessResult{Doc: d, Replies: replies, Ok: ok}
		},
		"OutsOk": func(a witnessArgs) witnessResult {
			return witnessResult{Ok: impl.OutsOk(a.List, a.Told)}
		},
		"Answers": func(a witnessArgs) witnessResult {
			return witnessResult{Replies: impl.Answers(a.Told, a.Session)}
		},
		"Waits": func(a witnessArgs) witnessResult {
			return witnessResult{N: impl.Waits(a.List, a.Told, a.Session)}
		},
	}
}

func checkOwnWitness(t *testing.T, args witnessArgs) {
	t.Helper()
	for name, call := range witnessCalls() {
		checkOwn(t, name, args, call, witnessResultText)
	}
}

// Also outputs and actions whose texts are in the same memory get each their own.
func TestWitnessesShareNoMemory(t *testing.T) {
	t.Parallel()
	text := []byte("ab\u00e9ab")
	find := impl.Req{Kind: impl.ReqFind, Session: 1, Text: text}
	put := impl.Req{Kind: impl.ReqInsert, Session: 1, Text: text}
	read := impl.Req{Kind: impl.ReqRead, Session: 1, B: 4}
	list := []impl.Event{pick(1), tick(2), pick(1), frame(put), pick(1), frameOf("?")}
	told := outsOf(at(0, outOf(find, 0, impl.Reply{Text: text})), at(2, outOf(put, 0, impl.Reply{Text: text[:2]})), at(3, outOf(put, 0, coded(10))), at(4, outOf(find, 0, impl.Reply{Text: text[2:]})), at(5, impl.Out{Reply: coded(1)}))
	acts := append(opened(1), doAct(0, find), tickAct(2), doAct(0, put), doAct(0, put), doAct(2, read), doAct(0, read), doAct(0, req(impl.ReqUndo, 1, 0, 0, 0, "")), doAct(0, read))
	if !impl.OutsOk(list, told) {
		t.Fatal("the outputs are not those of the events")
	}
	for session := range 3 {
		checkOwnWitness(t, witnessArgs{text, acts, list, told, session})
		checkOwnWitness(t, witnessArgs{text, append(slices.Clone(acts), impl.Act{}), list, append(slices.Clone(told), told[0]), session})
		checkOwnWitness(t, witnessArgs{[]byte("\xff"), acts, append(slices.Clone(list), impl.Event{}), told, session})
		checkOwnWitness(t, witnessArgs{nil, nil, nil, nil, session})
	}
	d, replies, ok := impl.ActsRun(text, acts)
	if !ok || len(replies) != 8 || len(d.Log) != 3 || !bytes.Equal(text, []byte("ab\u00e9ab")) {
		t.Errorf("the actions leave %s;\n%s\n%v", docText(d), replyTexts(replies), ok)
	}
}

func TestWitnessesOfRandomRunsAreTheirOwn(t *testing.T) {
	t.Parallel()
	random := rand.New(rand.NewSource(125))
	for n := range 8 {
		text, list, _ := randomRun(random, 4*n+2)
		_, told, _ := impl.MachRun([]byte(text), list)
		acts, _ := impl.Witness(list, told)
		for session := 1; session <= 2; session++ {
			checkOwnWitness(t, witnessArgs{[]byte(text), acts, list, told, session})
		}
	}
}
