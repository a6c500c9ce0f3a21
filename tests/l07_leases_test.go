package tests

import (
	"math"
	"math/rand"
	"slices"
	"strings"
	"testing"

	"loop.example/g00677/impl"
)

func lease(i int, j int, session int, till int) impl.Lease {
	return impl.Lease{I: i, J: j, Session: session, Till: till}
}

func leases(list ...impl.Lease) []impl.Lease {
	return list
}

func modelLease(l impl.Lease) bool {
	return l.I >= 0 && l.J >= l.I && l.J <= 400 && l.Session >= 1 && l.Session <= 8 && l.Till >= 1 && l.Till <= 1000
}

// modelKey is greater for a greater key of a valid lease.
func modelKey(l impl.Lease) int {
	return (l.I*401+l.J)*9 + l.Session
}

func modelLeases(list []impl.Lease) bool {
	if len(list) > 12 {
		return false
	}
	for _, l := range list {
		if !modelLease(l) {
			return false
		}
	}
	for i := 1; i < len(list); i++ {
		if modelKey(list[i-1]) >= modelKey(list[i]) {
			return false
		}
	}
	return true
}

// modelOverlap looks at each byte of the first span.
func modelOverlap(a impl.Lease, b impl.Lease) bool {
	for at := a.I; at < a.J; at++ {
		if b.I <= at && at < b.J {
			return true
		}
	}
	return false
}

// modelFind returns the index of the lease with the key of l, or -1.
func modelFind(list []impl.Lease, l impl.Lease) int {
	for i, x := range list {
		if x.I == l.I && x.J == l.J && x.Session == l.Session {
			return i
		}
	}
	return -1
}

// modelSorted sorts by insertion.
func modelSorted(list []impl.Lease) []impl.Lease {
	var out []impl.Lease
	for _, l := range list {
		n := 0
		for n < len(out) && modelKey(out[n]) < modelKey(l) {
			n++
		}
		out = slices.Insert(out, n, l)
	}
	return out
}

func modelTake(list []impl.Lease, l impl.Lease, now int) ([]impl.Lease, int) {
	if !modelLeases(list) || !modelLease(l) || now < 0 || now > 1000 || l.I == l.J {
		return nil, 1
	}
	if l.Till <= now {
		return nil, 2
	}
	for _, x := range list {
		if x.Session != l.Session && x.Till > now && modelOverlap(x, l) {
			return nil, 3
		}
	}
	if modelFind(list, l) >= 0 || len(list) >= 12 {
		return nil, 4
	}
	return modelSorted(append(slices.Clone(list), l)), 0
}

func modelRenew(list []impl.Lease, l impl.Lease, now int) ([]impl.Lease, int) {
	if !modelLeases(list) || !modelLease(l) || now < 0 || now > 1000 {
		return nil, 1
	}
	if l.Till <= now {
		return nil, 2
	}
	n := modelFind(list, l)
	if n < 0 || list[n].Till <= now {
		return nil, 5
	}
	out := slices.Clone(list)
	out[n].Till = l.Till
	return out, 0
}

func modelDrop(list []impl.Lease, l impl.Lease) ([]impl.Lease, int) {
	if !modelLeases(list) || !modelLease(l) {
		return nil, 1
	}
	n := modelFind(list, l)
	if n < 0 {
		return nil, 5
	}
	return append(slices.Clone(list[:n]), list[n+1:]...), 0
}

// modelThose returns the leases of a valid list that are wanted, in order.
func modelThose(list []impl.Lease, wanted func(impl.Lease) bool) []impl.Lease {
	var out []impl.Lease
	for _, l := range list {
		if modelLeases(list) && wanted(l) {
			out = append(out, l)
		}
	}
	return out
}

func modelExpire(list []impl.Lease, now int) []impl.Lease {
	return modelThose(list, func(l impl.Lease) bool { return l.Till > now })
}

func modelBars(list []impl.Lease, session int, e impl.Edit, now int) bool {
	bars := func(l impl.Lease) bool { return l.Till > now && l.Session != session && modelHits(e, l.I, l.J) }
	return len(modelThose(list, bars)) > 0
}

func modelAll(list []impl.Lease, session int) []impl.Lease {
	return modelThose(list, func(l impl.Lease) bool { return l.Session == session })
}

func modelMovedLeases(list []impl.Lease, e impl.Edit) []impl.Lease {
	if !modelLeases(list) || !modelSmall(e) {
		return nil
	}
	var out []impl.Lease
	for _, l := range list {
		l.I, l.J = modelSpan(l.I, l.J, e)
		if l.J > 400 {
			return nil
		}
		n := modelFind(out, l)
		switch {
		case l.I == l.J:
		case n < 0:
			out = append(out, l)
		default:
			out[n].Till = max(out[n].Till, l.Till)
		}
	}
	return modelSorted(out)
}

func checkLeasesOk(t *testing.T, list []impl.Lease, want bool) {
	t.Helper()
	if got := impl.LeasesOk(list); got != want {
		t.Fatalf("LeasesOk(%v) = %v", list, got)
	}
}

func checkTakeTo(t *testing.T, list []impl.Lease, l impl.Lease, now int, want []impl.Lease, wantCode int) {
	t.Helper()
	if got, code := impl.LeaseTake(list, l, now); code != wantCode || !slices.Equal(got, want) {
		t.Fatalf("LeaseTake(%v, %v, %d) = %v, %d, want %v, %d", list, l, now, got, code, want, wantCode)
	}
}

func checkRenewTo(t *testing.T, list []impl.Lease, l impl.Lease, now int, want []impl.Lease, wantCode int) {
	t.Helper()
	if got, code := impl.LeaseRenew(list, l, now); code != wantCode || !slices.Equal(got, want) {
		t.Fatalf("LeaseRenew(%v, %v, %d) = %v, %d, want %v, %d", list, l, now, got, code, want, wantCode)
	}
}

func checkDropTo(t *testing.T, list []impl.Lease, l impl.Lease, want []impl.Lease, wantCode int) {
	t.Helper()
	if got, code := impl.LeaseDrop(list, l); code != wantCode || !slices.Equal(got, want) {
		t.Fatalf("LeaseDrop(%v, %v) = %v, %d, want %v, %d", list, l, got, code, want, wantCode)
	}
}

func checkExpireTo(t *testing.T, list []impl.Lease, now int, want []impl.Lease) {
	t.Helper()
	if got := impl.LeaseExpire(list, now); !slices.Equal(got, want) {
		t.Fatalf("LeaseExpire(%v, %d) = %v, want %v", list, now, got, want)
	}
}

func checkBarsIs(t *testing.T, list []impl.Lease, session int, e impl.Edit, now int, want bool) {
	t.Helper()
	if got := impl.LeaseBars(list, session, e, now); got != want {
		t.Fatalf("LeaseBars(%v, %d, %s, %d) = %v", list, session, editText(e), now, got)
	}
}

func checkMovedTo(t *testing.T, list []impl.Lease, e impl.Edit, want []impl.Lease) {
	t.Helper()
	if got := impl.LeaseMoved(list, e); !slices.Equal(got, want) {
		t.Fatalf("LeaseMoved(%v, %s) = %v, want %v", list, editText(e), got, want)
	}
	// So that no expected list is wrong itself.
	checkLeasesOk(t, want, true)
}

func checkAllTo(t *testing.T, list []impl.Lease, session int, want []impl.Lease) {
	t.Helper()
	if got := impl.LeaseAll(list, session); !slices.Equal(got, want) {
		t.Fatalf("LeaseAll(%v, %d) = %v, want %v", list, session, got, want)
	}
}

// checkWith compares what depends on another lease and on the time with the model.
func checkWith(t *testing.T, list []impl.Lease, l impl.Lease, now int) {
	t.Helper()
	want, code := modelTake(list, l, now)
	checkTakeTo(t, list, l, now, want, code)
	want, code = modelRenew(list, l, now)
	checkRenewTo(t, list, l, now, want, code)
	want, code = modelDrop(list, l)
	checkDropTo(t, list, l, want, code)
}

func checkExpire(t *testing.T, list []impl.Lease, now int) {
	t.Helper()
	checkLeasesOk(t, list, modelLeases(list))
	checkExpireTo(t, list, now, modelExpire(list, now))
}

func checkBars(t *testing.T, list []impl.Lease, session int, e impl.Edit, now int) {
	t.Helper()
	checkBarsIs(t, list, session, e, now, modelBars(list, session, e, now))
}

func checkMovedLeases(t *testing.T, list []impl.Lease, e impl.Edit) {
	t.Helper()
	checkMovedTo(t, list, e, modelMovedLeases(list, e))
}

func checkAllLeases(t *testing.T, list []impl.Lease, session int) {
	t.Helper()
	checkAllTo(t, list, session, modelAll(list, session))
}

// checkInvalidLeases asserts what every function returns for a list that is not valid.
func checkInvalidLeases(t *testing.T, list []impl.Lease) {
	t.Helper()
	checkLeasesOk(t, list, false)
	others := append(slices.Clone(list[:min(len(list), 14)]), lease(300, 301, 1, 1000), lease(2, 2, 1, 9), lease(-1, 0, 0, 0))
	for _, l := range others {
		for _, now := range []int{-1, 0, 5, 999, 1000, 1001} {
			checkTakeTo(t, list, l, now, nil, impl.LeaseForm)
			checkRenewTo(t, list, l, now, nil, impl.LeaseForm)
			checkExpireTo(t, list, now, nil)
			checkBarsIs(t, list, 8, edit(0, 400, ""), now, false)
			checkBarsIs(t, list, 0, edit(0, 400, ""), now, false)
		}
		checkDropTo(t, list, l, nil, impl.LeaseForm)
		checkAllTo(t, list, l.Session, nil)
	}
	for _, e := range []impl.Edit{{}, edit(0, 0, "a"), edit(0, 1, ""), edit(0, 400, ""), edit(400, 0, ""), edit(-1, 0, "")} {
		checkMovedTo(t, list, e, nil)
	}
}

// rowOfLeases are n leases of three bytes each that touch one another, in turn of sessions 1 to 3.
func rowOfLeases(n int, till func(k int) int) []impl.Lease {
	var list []impl.Lease
	for k := range n {
		list = append(list, lease(3*k, 3*k+3, k%3+1, till(k)))
	}
	return list
}

func always(till int) func(int) int {
	return func(int) int { return till }
}

func TestLeaseExamples(t *testing.T) {
	held := leases(lease(2, 5, 1, 9))
	checkTakeTo(t, nil, lease(2, 5, 1, 9), 3, held, impl.LeaseFine)
	checkTakeTo(t, held, lease(4, 6, 2, 12), 3, nil, impl.LeaseHeld)
	both := leases(lease(2, 5, 1, 9), lease(4, 6, 2, 12))
	checkTakeTo(t, held, lease(4, 6, 2, 12), 9, both, impl.LeaseFine)
	checkMovedTo(t, held, edit(2, 0, "xy"), leases(lease(4, 7, 1, 9)))
	if impl.LeaseFine != 0 || impl.LeaseForm != 1 || impl.LeaseClock != 2 || impl.LeaseHeld != 3 || impl.LeaseFull != 4 || impl.LeaseNone != 5 || impl.MaxLeases != 12 || impl.MaxClock != 1000 || impl.MaxSession != 8 {
		t.Error("a constant has another value")
	}
}

func TestNoLeases(t *testing.T) {
	for _, list := range [][]impl.Lease{nil, {}} {
		checkLeasesOk(t, list, true)
		checkTakeTo(t, list, lease(0, 1, 1, 1), 0, leases(lease(0, 1, 1, 1)), impl.LeaseFine)
		checkTakeTo(t, list, lease(399, 400, 8, 1000), 999, leases(lease(399, 400, 8, 1000)), impl.LeaseFine)
		checkRenewTo(t, list, lease(0, 1, 1, 1), 0, nil, impl.LeaseNone)
		checkDropTo(t, list, lease(0, 1, 1, 1), nil, impl.LeaseNone)
		checkExpireTo(t, list, 0, nil)
		checkBarsIs(t, list, 1, edit(0, 400, ""), 0, false)
		checkMovedTo(t, list, edit(0, 0, "a"), nil)
		checkAllTo(t, list, 1, nil)
	}
}

// At time 9, the leases until 8 and until 9 have ended, and the one until 10 has not.
func TestLeasesThatEndNow(t *testing.T) {
	for _, x := range []struct {
		till   int
		active bool
	}{{8, false}, {9, false}, {10, true}} {
		held := lease(2, 5, 1, x.till)
		list := leases(held)
		if !x.active {
			checkExpireTo(t, list, 9, nil)
			checkRenewTo(t, list, lease(2, 5, 1, 20), 9, nil, impl.LeaseNone)
			checkTakeTo(t, list, lease(2, 5, 2, 20), 9, leases(held, lease(2, 5, 2, 20)), impl.LeaseFine)
			checkTakeTo(t, list, lease(3, 4, 2, 20), 9, leases(held, lease(3, 4, 2, 20)), impl.LeaseFine)
		} else {
			checkExpireTo(t, list, 9, list)
			checkRenewTo(t, list, lease(2, 5, 1, 20), 9, leases(lease(2, 5, 1, 20)), impl.LeaseFine)
			checkTakeTo(t, list, lease(2, 5, 2, 20), 9, nil, impl.LeaseHeld)
			checkTakeTo(t, list, lease(3, 4, 2, 20), 9, nil, impl.LeaseHeld)
		}
		// The own session may always overlap itself, but not take a key twice.
		checkTakeTo(t, list, lease(3, 4, 1, 20), 9, leases(held, lease(3, 4, 1, 20)), impl.LeaseFine)
		checkTakeTo(t, list, lease(2, 5, 1, 20), 9, nil, impl.LeaseFull)
		checkBarsIs(t, list, 2, edit(3, 0, "x"), 9, x.active)
		checkBarsIs(t, list, 1, edit(3, 0, "x"), 9, false)
		// Time does not count for these.
		checkAllTo(t, list, 1, list)
		checkDropTo(t, list, lease(2, 5, 1, 20), nil, impl.LeaseFine)
		checkMovedTo(t, list, edit(0, 1, ""), leases(lease(1, 4, 1, x.till)))
	}
}

func TestLeasesThatAreTakenWithTheirEndNow(t *testing.T) {
	held := lease(2, 5, 1, 500)
	list := leases(held)
	for _, till := range []int{1, 8, 9} {
		checkTakeTo(t, list, lease(7, 8, 2, till), 9, nil, impl.LeaseClock)
		checkTakeTo(t, list, lease(7, 8, 1, till), 9, nil, impl.LeaseClock)
		checkTakeTo(t, nil, lease(7, 8, 1, till), 9, nil, impl.LeaseClock)
		checkRenewTo(t, list, lease(2, 5, 1, till), 9, nil, impl.LeaseClock)
	}
	for _, till := range []int{10, 499, 500, 501, 1000} {
		checkTakeTo(t, list, lease(7, 8, 2, till), 9, leases(held, lease(7, 8, 2, till)), impl.LeaseFine)
		// A lease may also be renewed to end earlier.
		checkRenewTo(t, list, lease(2, 5, 1, till), 9, leases(lease(2, 5, 1, till)), impl.LeaseFine)
	}
}

func TestOverlappingLeases(t *testing.T) {
	held := lease(10, 20, 1, 9)
	for _, x := range []struct {
		i, j     int
		overlaps bool
	}{
		// They only touch, or are apart.
		{5, 10, false}, {20, 25, false}, {5, 9, false}, {21, 25, false}, {0, 1, false}, {399, 400, false},
		// They share one byte.
		{5, 11, true}, {19, 25, true}, {10, 11, true}, {19, 20, true},
		// One holds the other.
		{12, 15, true}, {10, 15, true}, {15, 20, true}, {0, 400, true}, {10, 21, true}, {9, 20, true}, {9, 21, true},
		// They are equal.
		{10, 20, true},
	} {
		other := lease(x.i, x.j, 2, 9)
		both := modelSorted(leases(held, other))
		if x.overlaps {
			checkTakeTo(t, leases(held), other, 3, nil, impl.LeaseHeld)
			checkTakeTo(t, leases(other), held, 3, nil, impl.LeaseHeld)
		} else {
			checkTakeTo(t, leases(held), other, 3, both, impl.LeaseFine)
			checkTakeTo(t, leases(other), held, 3, both, impl.LeaseFine)
		}
		other.Session = 1
		if other != held {
			checkTakeTo(t, leases(held), other, 3, modelSorted(leases(held, other)), impl.LeaseFine)
		}
	}
}

// An empty span has no byte in common with any other.
func TestEmptyLeases(t *testing.T) {
	for _, i := range []int{0, 1, 3, 399, 400} {
		empty := lease(i, i, 1, 9)
		checkLeasesOk(t, leases(empty), true)
		checkTakeTo(t, nil, empty, 3, nil, impl.LeaseForm)
		checkTakeTo(t, leases(empty), lease(0, 400, 2, 9), 3, modelSorted(leases(empty, lease(0, 400, 2, 9))), impl.LeaseFine)
		checkRenewTo(t, leases(empty), lease(i, i, 1, 20), 3, leases(lease(i, i, 1, 20)), impl.LeaseFine)
		checkDropTo(t, leases(empty), lease(i, i, 1, 20), nil, impl.LeaseFine)
		checkExpireTo(t, leases(empty), 8, leases(empty))
		checkExpireTo(t, leases(empty), 9, nil)
		checkAllTo(t, leases(empty), 1, leases(empty))
		checkBarsIs(t, leases(empty), 2, edit(i, 0, "x"), 3, false)
		checkBarsIs(t, leases(empty), 2, edit(0, 400, "x"), 3, false)
		checkMovedTo(t, leases(empty), edit(0, 0, ""), nil)
	}
}

func TestLeasesThatDifferInOneField(t *testing.T) {
	list := leases(lease(2, 5, 3, 9))
	// In the session: the key is free, but the span is held.
	checkTakeTo(t, list, lease(2, 5, 2, 9), 3, nil, impl.LeaseHeld)
	checkTakeTo(t, list, lease(2, 5, 4, 9), 3, nil, impl.LeaseHeld)
	checkTakeTo(t, list, lease(2, 5, 2, 20), 9, leases(lease(2, 5, 2, 20), lease(2, 5, 3, 9)), impl.LeaseFine)
	checkTakeTo(t, list, lease(2, 5, 4, 20), 9, leases(lease(2, 5, 3, 9), lease(2, 5, 4, 20)), impl.LeaseFine)
	// In Till: the key is taken.
	checkTakeTo(t, list, lease(2, 5, 3, 9), 3, nil, impl.LeaseFull)
	checkTakeTo(t, list, lease(2, 5, 3, 8), 3, nil, impl.LeaseFull)
	checkTakeTo(t, list, lease(2, 5, 3, 10), 3, nil, impl.LeaseFull)
	checkRenewTo(t, list, lease(2, 5, 3, 10), 3, leases(lease(2, 5, 3, 10)), impl.LeaseFine)
	for _, l := range leases(lease(1, 5, 3, 9), lease(3, 5, 3, 9), lease(2, 4, 3, 9), lease(2, 6, 3, 9), lease(2, 5, 2, 9), lease(2, 5, 4, 9)) {
		checkRenewTo(t, list, l, 3, nil, impl.LeaseNone)
		checkDropTo(t, list, l, nil, impl.LeaseNone)
		if l.Session == 3 {
			checkTakeTo(t, list, l, 3, modelSorted(leases(list[0], l)), impl.LeaseFine)
		}
	}
}

// The keys are compared by I, then by J, then by Session, and never by Till.
func TestOrderOfLeases(t *testing.T) {
	list := leases(lease(0, 9, 8, 9), lease(1, 1, 8, 9), lease(1, 2, 1, 9), lease(1, 2, 2, 1), lease(1, 2, 8, 9), lease(1, 10, 1, 8), lease(2, 2, 1, 9), lease(2, 3, 1, 5))
	checkLeasesOk(t, list, true)
	for n, l := range list {
		for m := range list {
			checkLeasesOk(t, leases(l, list[m]), n < m)
		}
		for _, till := range []int{1, 8, 9, 10, 1000} {
			checkInvalidLeases(t, leases(l, lease(l.I, l.J, l.Session, till)))
		}
		rest := slices.Delete(slices.Clone(list), n, n+1)
		renewed := slices.Clone(list)
		renewed[n].Till = 1000
		checkRenewTo(t, list, renewed[n], 0, renewed, impl.LeaseFine)
		checkDropTo(t, list, l, rest, impl.LeaseFine)
		// All others have ended, so that it may take its place among them again.
		if l.I < l.J {
			checkTakeTo(t, rest, renewed[n], 9, renewed, impl.LeaseFine)
		}
	}
}

func TestListsWithTheMostLeases(t *testing.T) {
	// Every second lease has ended at 9.
	row := rowOfLeases(12, func(k int) int { return 9 + k%2 })
	free := lease(100, 101, 1, 20)
	checkLeasesOk(t, row, true)
	for n := range 13 {
		want, code := append(slices.Clone(row[:n]), free), impl.LeaseFine
		if n == 12 {
			want, code = nil, impl.LeaseFull
		}
		// Leases that have ended count, too.
		for _, now := range []int{8, 9, 10, 19} {
			checkTakeTo(t, row[:n], free, now, want, code)
			checkWith(t, row[:n], free, now)
		}
	}
	// A list that is full is still renewed, dropped from, moved and so on.
	checkRenewTo(t, row, lease(33, 36, 3, 500), 9, append(slices.Clone(row[:11]), lease(33, 36, 3, 500)), impl.LeaseFine)
	checkRenewTo(t, row, lease(30, 33, 2, 500), 9, nil, impl.LeaseNone)
	checkDropTo(t, row, row[0], row[1:], impl.LeaseFine)
	checkDropTo(t, row, row[11], row[:11], impl.LeaseFine)
	checkExpireTo(t, row, 8, row)
	checkExpireTo(t, row, 9, leases(row[1], row[3], row[5], row[7], row[9], row[11]))
	checkExpireTo(t, row, 10, nil)
	checkAllTo(t, row, 2, leases(row[1], row[4], row[7], row[10]))
	checkBarsIs(t, row, 1, edit(34, 0, "x"), 9, true)
	checkBarsIs(t, row, 1, edit(31, 0, "x"), 9, false)
	// One lease has room after one of them was dropped or has expired.
	checkTakeTo(t, row[1:], free, 3, append(slices.Clone(row[1:]), free), impl.LeaseFine)
	checkTakeTo(t, impl.LeaseExpire(row, 9), free, 9, leases(row[1], row[3], row[5], row[7], row[9], row[11], free), impl.LeaseFine)
	checkInvalidLeases(t, append(slices.Clone(row), free))
}

func TestKeysOfLeasesThatHaveEnded(t *testing.T) {
	ended, other := lease(2, 5, 1, 9), lease(8, 9, 2, 50)
	list := leases(ended, other)
	for _, now := range []int{9, 10, 19} {
		checkTakeTo(t, list, lease(2, 5, 1, 20), now, nil, impl.LeaseFull)
		checkRenewTo(t, list, lease(2, 5, 1, 20), now, nil, impl.LeaseNone)
		checkExpireTo(t, list, now, leases(other))
		// Without it, its key is free again.
		checkTakeTo(t, impl.LeaseExpire(list, now), lease(2, 5, 1, 20), now, leases(lease(2, 5, 1, 20), other), impl.LeaseFine)
	}
	checkDropTo(t, list, lease(2, 5, 1, 9), leases(other), impl.LeaseFine)
	checkDropTo(t, list, lease(2, 5, 1, 1000), leases(other), impl.LeaseFine)
	// Another session has taken the span in the meantime.
	taken := leases(ended, lease(4, 6, 2, 12))
	checkTakeTo(t, taken, lease(2, 5, 1, 20), 9, nil, impl.LeaseHeld)
	checkTakeTo(t, taken, lease(2, 5, 1, 20), 12, nil, impl.LeaseFull)
	checkRenewTo(t, taken, lease(2, 5, 1, 20), 9, nil, impl.LeaseNone)
	checkBarsIs(t, taken, 2, edit(3, 1, ""), 9, false)
	checkBarsIs(t, taken, 1, edit(3, 2, ""), 9, true)
	checkBarsIs(t, taken, 3, edit(2, 2, ""), 9, false)
}

// codedLease is a lease for a list at a time, with the code that is expected.
type codedLease struct {
	list []impl.Lease
	l    impl.Lease
	now  int
	code int
}

func TestOrderOfTheErrorsOfTaking(t *testing.T) {
	row := rowOfLeases(12, always(50))
	wrong := leases(row[1], row[0])
	for _, x := range []codedLease{
		// LeaseForm, and each of the others: ended, held, its key is taken, and full.
		{wrong, lease(100, 101, 1, 9), 9, impl.LeaseForm},
		{wrong, lease(0, 3, 8, 50), 9, impl.LeaseForm},
		{wrong, row[0], 9, impl.LeaseForm},
		{row, lease(100, 401, 1, 9), 9, impl.LeaseForm},
		{row, lease(-1, 3, 1, 60), 9, impl.LeaseForm},
		{row, lease(100, 101, 9, 60), 9, impl.LeaseForm},
		{row, lease(0, 3, 8, 1001), 9, impl.LeaseForm},
		{row, lease(0, 3, 8, 0), 9, impl.LeaseForm},
		{row, row[0], -1, impl.LeaseForm},
		{row, row[0], 1001, impl.LeaseForm},
		{row, lease(1, 1, 8, 9), 9, impl.LeaseForm},
		{row, lease(1, 1, 8, 60), 9, impl.LeaseForm},
		{leases(lease(1, 1, 8, 60)), lease(1, 1, 8, 60), 9, impl.LeaseForm},
		// LeaseClock, and each of the others.
		{row, lease(0, 3, 8, 9), 9, impl.LeaseClock},
		{row, lease(0, 3, 1, 9), 9, impl.LeaseClock},
		{row[:2], lease(0, 3, 8, 9), 9, impl.LeaseClock},
		{row[:2], lease(0, 3, 1, 9), 9, impl.LeaseClock},
		{row, lease(100, 101, 1, 9), 9, impl.LeaseClock},
		{row, lease(0, 3, 1, 1000), 1000, impl.LeaseClock},
		// LeaseHeld, and each of the others.
		{row, lease(0, 3, 8, 60), 9, impl.LeaseHeld},
		{leases(lease(2, 5, 1, 9), lease(4, 6, 2, 12)), lease(2, 5, 1, 60), 9, impl.LeaseHeld},
		{append(slices.Clone(row[:11]), lease(30, 34, 7, 9)), lease(30, 34, 7, 60), 9, impl.LeaseHeld},
		// LeaseFull, for one reason or both.
		{row, lease(100, 101, 1, 60), 9, impl.LeaseFull},
		{row, lease(0, 3, 1, 60), 9, impl.LeaseFull},
		{row[:2], lease(0, 3, 1, 60), 9, impl.LeaseFull},
		{row, lease(0, 3, 8, 60), 50, impl.LeaseFull},
		// None.
		{row[:11], lease(0, 3, 8, 60), 50, impl.LeaseFine},
		{row[:11], lease(0, 2, 1, 60), 9, impl.LeaseFine},
	} {
		want, _ := modelTake(x.list, x.l, x.now)
		checkTakeTo(t, x.list, x.l, x.now, want, x.code)
	}
}

func TestOrderOfTheErrorsOfRenewingAndDropping(t *testing.T) {
	row := rowOfLeases(12, always(50))
	wrong := leases(row[1], row[0])
	for _, x := range []codedLease{
		{wrong, row[0], 9, impl.LeaseForm},
		{wrong, lease(0, 3, 1, 9), 9, impl.LeaseForm},
		{wrong, lease(100, 101, 1, 9), 9, impl.LeaseForm},
		{row, lease(0, 401, 1, 60), 9, impl.LeaseForm},
		{row, lease(0, 3, 9, 9), 9, impl.LeaseForm},
		{row, lease(0, 3, 1, 0), 9, impl.LeaseForm},
		{row, lease(0, 3, 1, 1001), 9, impl.LeaseForm},
		{row, row[0], -1, impl.LeaseForm},
		{row, row[0], 1001, impl.LeaseForm},
		{row, lease(100, 101, 1, 60), 1001, impl.LeaseForm},
		{row, lease(0, 3, 1, 9), 9, impl.LeaseClock},
		{row, lease(100, 101, 1, 9), 9, impl.LeaseClock},
		{row, lease(0, 3, 1, 49), 50, impl.LeaseClock},
		{row, lease(0, 3, 1, 1000), 1000, impl.LeaseClock},
		{row, lease(0, 3, 1, 60), 50, impl.LeaseNone},
		{row, lease(0, 3, 2, 60), 9, impl.LeaseNone},
		{row, lease(100, 101, 1, 60), 9, impl.LeaseNone},
		{row, lease(0, 3, 1, 60), 49, impl.LeaseFine},
	} {
		want, _ := modelRenew(x.list, x.l, x.now)
		checkRenewTo(t, x.list, x.l, x.now, want, x.code)
	}
	// A lease that is not valid has no key to look for.
	checkDropTo(t, wrong, row[0], nil, impl.LeaseForm)
	checkDropTo(t, wrong, lease(100, 101, 1, 9), nil, impl.LeaseForm)
	checkDropTo(t, row, lease(100, 401, 1, 9), nil, impl.LeaseForm)
	checkDropTo(t, row, lease(0, 3, 1, 0), nil, impl.LeaseForm)
	checkDropTo(t, row, lease(0, 3, 1, 1001), nil, impl.LeaseForm)
	checkDropTo(t, row, lease(100, 101, 1, 9), nil, impl.LeaseNone)
}

func TestDroppingWithAnotherTill(t *testing.T) {
	list := leases(lease(2, 5, 1, 9), lease(2, 5, 2, 3), lease(2, 6, 1, 9))
	for _, till := range []int{1, 8, 9, 10, 1000} {
		checkDropTo(t, list, lease(2, 5, 1, till), list[1:], impl.LeaseFine)
		checkDropTo(t, list, lease(2, 5, 2, till), leases(list[0], list[2]), impl.LeaseFine)
		checkDropTo(t, list, lease(2, 6, 1, till), list[:2], impl.LeaseFine)
		checkDropTo(t, list, lease(2, 6, 2, till), nil, impl.LeaseNone)
	}
	for _, till := range []int{0, -1, 1001, math.MinInt, math.MaxInt} {
		checkDropTo(t, list, lease(2, 5, 1, till), nil, impl.LeaseForm)
	}
}

func TestLeasesThatHaveExpired(t *testing.T) {
	list := leases(lease(0, 2, 1, 5), lease(1, 2, 1, 7), lease(2, 9, 2, 5), lease(3, 4, 2, 1000), lease(3, 5, 2, 1), lease(6, 7, 2, 6), lease(9, 9, 3, 5), lease(9, 12, 3, 7))
	for _, x := range []struct {
		now  int
		want []impl.Lease
	}{
		{math.MinInt, list}, {-1, list}, {0, list},
		{1, slices.Delete(slices.Clone(list), 4, 5)},
		{4, slices.Delete(slices.Clone(list), 4, 5)},
		{5, leases(list[1], list[3], list[5], list[7])},
		{6, leases(list[1], list[3], list[7])},
		{7, leases(list[3])},
		{999, leases(list[3])},
		{1000, nil}, {1001, nil}, {math.MaxInt, nil},
	} {
		checkExpireTo(t, list, x.now, x.want)
		checkExpire(t, list, x.now)
	}
	// All orders in which four leases can end.
	for n := range 256 {
		var some []impl.Lease
		for k := range 4 {
			some = append(some, lease(k, k+2, 1, 1+n>>(2*k)&3))
		}
		for now := range 6 {
			checkExpire(t, some, now)
		}
	}
}

func TestLeasesOfASession(t *testing.T) {
	list := leases(lease(0, 2, 1, 5), lease(1, 2, 8, 7), lease(2, 9, 2, 5), lease(3, 4, 1, 1000), lease(3, 5, 2, 1), lease(6, 7, 2, 6))
	checkAllTo(t, list, 1, leases(list[0], list[3]))
	checkAllTo(t, list, 2, leases(list[2], list[4], list[5]))
	checkAllTo(t, list, 8, leases(list[1]))
	checkAllTo(t, list[1:2], 8, list[1:2])
	for _, session := range []int{math.MinInt, -1, 0, 3, 7, 9, math.MaxInt} {
		checkAllTo(t, list, session, nil)
	}
}

func TestEditsThatALeaseBars(t *testing.T) {
	list := leases(lease(10, 20, 1, 9))
	for _, x := range []struct {
		e    impl.Edit
		bars bool
	}{
		// Insertions before, at the start, inside, at the end and after.
		{edit(9, 0, "x"), false}, {edit(10, 0, "x"), false}, {edit(11, 0, "x"), true}, {edit(15, 0, "x"), true}, {edit(19, 0, "x"), true}, {edit(20, 0, "x"), false}, {edit(21, 0, "x"), false},
		// Edits that neither cut nor put.
		{edit(10, 0, ""), false}, {edit(11, 0, ""), true}, {edit(19, 0, ""), true}, {edit(20, 0, ""), false},
		// Cuts before it, up to its start, and of its first byte.
		{edit(5, 4, ""), false}, {edit(5, 5, ""), false}, {edit(5, 6, ""), true}, {edit(10, 1, "x"), true}, {edit(9, 1, "x"), false},
		// Cuts of its last byte, from its end on, and after it.
		{edit(19, 1, ""), true}, {edit(19, 9, ""), true}, {edit(20, 1, "x"), false}, {edit(21, 1, ""), false},
		// Cuts inside, of the whole span, and of more.
		{edit(15, 1, ""), true}, {edit(10, 10, ""), true}, {edit(9, 12, "x"), true}, {edit(0, 400, ""), true},
	} {
		for session := -1; session < 11; session++ {
			checkBarsIs(t, list, session, x.e, 8, x.bars && session != 1)
			checkBarsIs(t, list, session, x.e, 9, false)
			checkBarsIs(t, list, session, x.e, -1, x.bars && session != 1)
			checkBars(t, list, session, x.e, 8)
		}
	}
	// A span of one byte has no inside.
	one := leases(lease(10, 11, 1, 9))
	checkBarsIs(t, one, 2, edit(10, 0, "x"), 3, false)
	checkBarsIs(t, one, 2, edit(11, 0, "x"), 3, false)
	checkBarsIs(t, one, 2, edit(10, 1, ""), 3, true)
}

// One and the same lease must be active, of another session, and hit.
func TestEditsThatSeveralLeasesBar(t *testing.T) {
	list := leases(lease(0, 4, 1, 9), lease(2, 6, 2, 20), lease(6, 9, 1, 30), lease(6, 9, 3, 9))
	for _, x := range []struct {
		session int
		e       impl.Edit
		now     int
		want    bool
	}{
		{1, edit(1, 0, "x"), 8, false}, {2, edit(1, 0, "x"), 8, true}, {2, edit(1, 0, "x"), 9, false},
		{1, edit(3, 0, "x"), 8, true}, {2, edit(3, 0, "x"), 8, true}, {2, edit(3, 0, "x"), 9, false}, {1, edit(3, 0, "x"), 9, true}, {1, edit(3, 0, "x"), 20, false},
		{1, edit(6, 0, "x"), 8, false}, {1, edit(6, 1, "x"), 8, true}, {1, edit(6, 1, "x"), 9, false}, {2, edit(6, 1, "x"), 9, true}, {3, edit(6, 1, "x"), 9, true}, {3, edit(6, 1, "x"), 30, false},
		{1, edit(0, 9, ""), 20, false}, {2, edit(0, 9, ""), 20, true}, {4, edit(0, 9, ""), 29, true}, {4, edit(0, 9, ""), 30, false},
	} {
		checkBarsIs(t, list, x.session, x.e, x.now, x.want)
		checkBars(t, list, x.session, x.e, x.now)
	}
	for _, e := range gridEdits() {
		for session := range 5 {
			for _, now := range []int{-1, 0, 8, 9, 19, 20, 29, 30} {
				checkBars(t, list, session, e, now)
			}
		}
	}
}

func TestLeasesAtTheEdgesOfAnEdit(t *testing.T) {
	for _, x := range []struct {
		l    impl.Lease
		e    impl.Edit
		want []impl.Lease
	}{
		// Insertions before, at the start, inside, at the end and after.
		{lease(2, 5, 1, 9), edit(1, 0, "xy"), leases(lease(4, 7, 1, 9))},
		{lease(2, 5, 1, 9), edit(2, 0, "xy"), leases(lease(4, 7, 1, 9))},
		{lease(2, 5, 1, 9), edit(3, 0, "xy"), leases(lease(2, 7, 1, 9))},
		{lease(2, 5, 1, 9), edit(5, 0, "xy"), leases(lease(2, 5, 1, 9))},
		{lease(2, 5, 1, 9), edit(6, 0, "xy"), leases(lease(2, 5, 1, 9))},
		// Cuts of some of it.
		{lease(2, 5, 1, 9), edit(1, 2, ""), leases(lease(1, 3, 1, 9))},
		{lease(2, 5, 1, 9), edit(1, 2, "xyz"), leases(lease(4, 6, 1, 9))},
		{lease(2, 5, 1, 9), edit(4, 9, "xyz"), leases(lease(2, 4, 1, 9))},
		{lease(2, 5, 1, 9), edit(3, 1, "xyz"), leases(lease(2, 7, 1, 9))},
		{lease(2, 5, 1, 9), edit(2, 2, ""), leases(lease(2, 3, 1, 9))},
		{lease(2, 5, 1, 9), edit(3, 2, ""), leases(lease(2, 3, 1, 9))},
		// Cuts of all of it, and of more.
		{lease(2, 5, 1, 9), edit(2, 3, ""), nil},
		{lease(2, 5, 1, 9), edit(2, 3, "xyz"), nil},
		{lease(2, 5, 1, 9), edit(1, 5, ""), nil},
		{lease(2, 5, 1, 9), edit(0, 400, "x"), nil},
		{lease(2, 3, 1, 9), edit(2, 1, "x"), nil},
		{lease(0, 400, 8, 1000), edit(0, 400, ""), nil},
		// It was empty before.
		{lease(2, 2, 1, 9), edit(2, 0, "xy"), nil},
		{lease(2, 2, 1, 9), edit(9, 0, "xy"), nil},
		{lease(2, 2, 1, 9), edit(0, 0, ""), nil},
		// Nothing changes.
		{lease(2, 5, 1, 9), edit(0, 0, ""), leases(lease(2, 5, 1, 9))},
		{lease(2, 5, 1, 9), edit(400, 400, ""), leases(lease(2, 5, 1, 9))},
	} {
		checkMovedTo(t, leases(x.l), x.e, x.want)
		checkMovedLeases(t, leases(x.l), x.e)
	}
}

// Of the leases with one key, the one that ends last stays, wherever it stands in the list.
func TestLeasesWhoseKeysBecomeEqual(t *testing.T) {
	by := edit(2, 3, "")
	for _, tills := range [][3]int{{9, 8, 7}, {7, 8, 9}, {8, 9, 7}, {8, 7, 9}, {9, 9, 1}, {1, 9, 9}, {9, 1, 9}, {5, 5, 5}, {1, 1000, 2}} {
		list := leases(lease(2, 7, 1, tills[0]), lease(3, 7, 1, tills[1]), lease(5, 7, 1, tills[2]))
		checkMovedTo(t, list, by, leases(lease(2, 4, 1, slices.Max(tills[:]))))
		// Equal ends, too, and one key stands by itself.
		list = leases(lease(0, 2, 1, tills[0]), lease(0, 3, 1, tills[1]), lease(0, 5, 1, tills[2]), lease(0, 6, 1, 3))
		checkMovedTo(t, list, by, leases(lease(0, 2, 1, slices.Max(tills[:])), lease(0, 3, 1, 3)))
		// The keys of two sessions are not equal.
		list = leases(lease(2, 7, 2, tills[0]), lease(3, 7, 1, tills[1]), lease(5, 7, 2, tills[2]))
		checkMovedTo(t, list, by, leases(lease(2, 4, 1, tills[1]), lease(2, 4, 2, max(tills[0], tills[2]))))
	}
	// Neither are keys with only one end in common.
	list := leases(lease(2, 7, 1, 9), lease(3, 8, 1, 9), lease(5, 9, 1, 9))
	checkMovedTo(t, list, by, leases(lease(2, 4, 1, 9), lease(2, 5, 1, 9), lease(2, 6, 1, 9)))
	// Leases that become empty are not kept for their Till.
	list = leases(lease(2, 4, 1, 100), lease(2, 7, 1, 9), lease(3, 5, 1, 100), lease(4, 7, 1, 8))
	checkMovedTo(t, list, by, leases(lease(2, 4, 1, 9)))
	// All leases of a full list.
	row := leases()
	for k := range 12 {
		row = append(row, lease(k, 30, 4, 100+k*5%12))
	}
	checkMovedTo(t, row, edit(0, 20, "ab"), leases(lease(2, 12, 4, 111)))
}

func TestEditsThatChangeTheOrderOfLeases(t *testing.T) {
	list := leases(lease(2, 9, 1, 5), lease(3, 5, 1, 6), lease(4, 7, 2, 7), lease(5, 8, 3, 8))
	checkMovedTo(t, list, edit(1, 3, "x"), leases(lease(2, 3, 1, 6), lease(2, 5, 2, 7), lease(2, 7, 1, 5), lease(3, 6, 3, 8)))
	// The sessions decide.
	list = leases(lease(2, 9, 3, 5), lease(3, 9, 2, 6), lease(4, 9, 1, 7))
	checkMovedTo(t, list, edit(2, 2, ""), leases(lease(2, 7, 1, 7), lease(2, 7, 2, 6), lease(2, 7, 3, 5)))
}

func TestLeasesThatAreMovedToTheGreatestOffset(t *testing.T) {
	for _, x := range []struct {
		l       impl.Lease
		at, cut int
		most    int
		want    []impl.Lease
	}{
		{lease(2, 5, 1, 9), 0, 0, 395, leases(lease(397, 400, 1, 9))},
		{lease(2, 5, 1, 9), 2, 0, 395, leases(lease(397, 400, 1, 9))},
		{lease(2, 5, 1, 9), 3, 0, 395, leases(lease(2, 400, 1, 9))},
		{lease(2, 5, 1, 9), 3, 1, 396, leases(lease(2, 400, 1, 9))},
		{lease(2, 5, 1, 9), 0, 3, 398, leases(lease(398, 400, 1, 9))},
		{lease(0, 400, 1, 9), 0, 1, 1, leases(lease(1, 400, 1, 9))},
		{lease(399, 400, 1, 9), 7, 3, 3, leases(lease(399, 400, 1, 9))},
		// These are removed, but must not be moved too far either.
		{lease(2, 5, 1, 9), 2, 3, 398, nil},
		{lease(2, 5, 1, 9), 1, 4, 399, nil},
		{lease(2, 5, 1, 9), 1, 5, 399, nil},
		{lease(5, 5, 1, 9), 0, 0, 395, nil},
		{lease(5, 5, 1, 9), 5, 0, 395, nil},
		{lease(400, 400, 1, 9), 0, 1, 1, nil},
	} {
		e, more := edit(x.at, x.cut, strings.Repeat("a", x.most)), edit(x.at, x.cut, strings.Repeat("a", x.most+1))
		other := lease(0, 1, 2, 9)
		list := modelSorted(leases(x.l, other))
		checkMovedTo(t, leases(x.l), e, x.want)
		if x.at > 0 {
			checkMovedTo(t, list, e, append(leases(other), x.want...))
		}
		// A byte more, and nothing is left of the whole list.
		checkMovedTo(t, leases(x.l), more, nil)
		checkMovedTo(t, list, more, nil)
		checkMovedTo(t, append(leases(lease(0, 0, 1, 9)), list...), more, nil)
	}
	// The edit as a whole may be as great as it likes, as long as no lease is moved too far.
	full := edit(5, 400, strings.Repeat("a", 400))
	checkMovedTo(t, leases(lease(2, 5, 1, 9)), full, leases(lease(2, 5, 1, 9)))
	checkMovedTo(t, leases(lease(2, 6, 1, 9)), full, leases(lease(2, 5, 1, 9)))
	checkMovedTo(t, leases(lease(2, 5, 1, 9), lease(5, 6, 1, 9)), full, nil)
	// It is the end of a span that counts, whether its lease comes first, in the middle or last.
	list := leases(lease(0, 3, 1, 9), lease(1, 400, 2, 9), lease(2, 3, 3, 9))
	checkMovedTo(t, list, edit(3, 0, "a"), nil)
	checkMovedTo(t, list[:1], edit(3, 0, "a"), list[:1])
	checkMovedTo(t, list[1:], edit(3, 0, "a"), nil)
	checkMovedTo(t, leases(lease(0, 400, 2, 9), lease(2, 3, 3, 9)), edit(3, 0, "a"), nil)
	checkMovedTo(t, leases(lease(0, 3, 1, 9), lease(2, 400, 3, 9)), edit(3, 0, "a"), nil)
}

// Unless it is empty, a lease that nothing hits keeps its bytes.
func TestLeasesKeepTheirBytes(t *testing.T) {
	text := "abcdefghij"
	for _, e := range someEdits(text, "", "X", "XYZ") {
		after, ok := impl.EditDo([]byte(text), e)
		if !ok {
			t.Fatalf("%s is not valid", editText(e))
		}
		for i := range text {
			for j := i + 1; j <= len(text); j++ {
				list := leases(lease(i, j, 1, 9))
				moved := impl.LeaseMoved(list, e)
				if impl.LeaseBars(list, 2, e, 3) {
					continue
				}
				if len(moved) != 1 || string(after[moved[0].I:moved[0].J]) != text[i:j] {
					t.Fatalf("%s moves %v to %v of %q", editText(e), list, moved, after)
				}
			}
		}
	}
}

func TestEditsThatAreNotSmallMoveAndHitNoLeases(t *testing.T) {
	list := leases(lease(0, 10, 1, 9), lease(3, 400, 2, 9))
	wrong := []impl.Edit{edit(-1, 5, ""), edit(401, 0, ""), edit(5, -1, ""), edit(0, 401, ""), edit(4, 2, strings.Repeat("a", 401)), edit(math.MinInt, 5, ""), edit(math.MaxInt, 5, ""), edit(1, math.MinInt, ""), edit(1, math.MaxInt, ""), edit(math.MaxInt, math.MaxInt, ""), edit(math.MinInt, math.MaxInt, ""), edit(-1, 401, strings.Repeat("a", 401))}
	for _, e := range wrong {
		for _, some := range [][]impl.Lease{nil, list, list[:1], leases(lease(0, 0, 1, 9))} {
			checkMovedTo(t, some, e, nil)
			for session := range 4 {
				checkBarsIs(t, some, session, e, 3, false)
			}
		}
	}
	for _, e := range []impl.Edit{edit(5, 0, strings.Repeat("a", 400)), edit(0, 400, ""), edit(5, 400, strings.Repeat("a", 400))} {
		checkBarsIs(t, list, 3, e, 3, true)
	}
	// What is put need not be a text.
	checkMovedTo(t, list, edit(4, 1, "\xff"), list)
	checkBarsIs(t, list, 1, edit(4, 1, "\xff"), 3, true)
}

// fieldNumbers are the limits of all fields of a lease, and of the time.
func fieldNumbers() []int {
	return append(limitNumbers(), 7, 8, 9, 999, 1000, 1001, math.MinInt+1000, math.MaxInt-1000)
}

// leasesOfOneField have a number in one field, or in both ends, and are valid otherwise.
func leasesOfOneField() []impl.Lease {
	var list []impl.Lease
	for _, n := range fieldNumbers() {
		list = append(list, lease(n, 400, 1, 9), lease(0, n, 1, 9), lease(n, n, 1, 9), lease(0, 400, n, 9), lease(0, 400, 1, n), lease(1, n, 1, 9), lease(n, 399, 1, 9))
	}
	return list
}

func TestFieldsOfLeases(t *testing.T) {
	for _, l := range leases(lease(0, 0, 1, 1), lease(0, 1, 1, 1), lease(400, 400, 8, 1000), lease(0, 400, 8, 1000), lease(399, 400, 1, 1000), lease(1, 2, 8, 1)) {
		checkLeasesOk(t, leases(l), true)
	}
	for _, l := range leases(lease(-1, 0, 1, 1), lease(-1, -1, 1, 1), lease(0, 401, 1, 1), lease(401, 401, 1, 1), lease(401, 400, 1, 1), lease(1, 0, 1, 1), lease(5, 4, 1, 1), lease(0, -1, 1, 1), lease(0, 1, 0, 1), lease(0, 1, 9, 1), lease(0, 1, -1, 1), lease(0, 1, 1, 0), lease(0, 1, 1, 1001), lease(0, 1, 1, -1), impl.Lease{}) {
		checkInvalidLeases(t, leases(l))
		for _, list := range [][]impl.Lease{nil, leases(lease(0, 1, 1, 1)), rowOfLeases(12, always(9))} {
			checkTakeTo(t, list, l, 0, nil, impl.LeaseForm)
			checkRenewTo(t, list, l, 0, nil, impl.LeaseForm)
			checkDropTo(t, list, l, nil, impl.LeaseForm)
		}
	}
	for _, l := range leasesOfOneField() {
		if !modelLease(l) {
			checkInvalidLeases(t, leases(l))
		}
		for _, now := range fieldNumbers() {
			checkExpire(t, leases(l), now)
			checkWith(t, nil, l, now)
			checkWith(t, leases(l), l, now)
			checkWith(t, leases(lease(0, 400, 1, 9)), l, now)
			checkWith(t, leases(lease(0, 400, 2, 9)), l, now)
			checkBars(t, leases(l), 2, edit(5, 0, "x"), now)
		}
		for _, session := range fieldNumbers() {
			checkAllLeases(t, leases(l), session)
			checkBars(t, leases(l), session, edit(5, 0, "x"), 0)
		}
	}
}

// All fields at once have extreme numbers.
func TestLeasesOfExtremeNumbers(t *testing.T) {
	numbers := []int{math.MinInt, -1, 0, 1, 8, 400, 401, 1000, math.MaxInt}
	held := leases(lease(0, 1, 1, 1), lease(0, 400, 1, 1000), lease(1, 400, 8, 1))
	for _, i := range numbers {
		for _, j := range numbers {
			for _, session := range numbers {
				for _, till := range numbers {
					l := lease(i, j, session, till)
					for _, now := range numbers {
						checkWith(t, held, l, now)
						checkWith(t, leases(l), lease(0, 400, 1, 1000), now)
						checkExpire(t, leases(l), now)
					}
					checkMovedLeases(t, leases(l), edit(1, 0, "x"))
				}
			}
		}
	}
}

func TestLeasesAtTheLimitsOfTime(t *testing.T) {
	held := lease(2, 5, 1, 1000)
	list := leases(held)
	for _, now := range []int{math.MinInt, -2, -1, 1001, 1002, math.MaxInt} {
		checkTakeTo(t, nil, held, now, nil, impl.LeaseForm)
		checkTakeTo(t, list, lease(7, 8, 2, 1000), now, nil, impl.LeaseForm)
		checkRenewTo(t, list, held, now, nil, impl.LeaseForm)
	}
	for _, now := range []int{0, 999} {
		checkTakeTo(t, nil, held, now, list, impl.LeaseFine)
		checkRenewTo(t, list, held, now, list, impl.LeaseFine)
	}
	checkTakeTo(t, nil, held, 1000, nil, impl.LeaseClock)
	checkRenewTo(t, list, held, 1000, nil, impl.LeaseClock)
	checkTakeTo(t, nil, lease(2, 5, 1, 1), 0, leases(lease(2, 5, 1, 1)), impl.LeaseFine)
	checkTakeTo(t, nil, lease(2, 5, 1, 1), 1, nil, impl.LeaseClock)
	// Any time will do where none is ruled out.
	for _, now := range []int{math.MinInt, -1, 0, 999} {
		checkExpireTo(t, list, now, list)
		checkBarsIs(t, list, 2, edit(3, 0, "x"), now, true)
	}
	for _, now := range []int{1000, 1001, math.MaxInt} {
		checkExpireTo(t, list, now, nil)
		checkBarsIs(t, list, 2, edit(3, 0, "x"), now, false)
	}
}

func TestListsThatAreNoLeases(t *testing.T) {
	row := rowOfLeases(5, always(9))
	for n := range row {
		for m := range row {
			swapped := slices.Clone(row)
			swapped[n], swapped[m] = swapped[m], swapped[n]
			if n != m {
				checkInvalidLeases(t, swapped)
			}
		}
		// A lease twice, next to itself and at the end.
		checkInvalidLeases(t, slices.Insert(slices.Clone(row), n, row[n]))
		checkInvalidLeases(t, append(slices.Clone(row), row[n]))
	}
	// An invalid lease first, in the middle and last, in its place by I, J and Session.
	for n := range 6 {
		for _, wrong := range leases(lease(3*n-1, 3*n-2, 1, 9), lease(3*n-1, 401, 1, 9), lease(3*n-1, 3*n, 0, 9), lease(3*n-1, 3*n, 9, 9), lease(3*n-1, 3*n, 1, 0), lease(3*n-1, 3*n, 1, 1001), lease(3*n-1, 3*n, 1, -1)) {
			checkInvalidLeases(t, slices.Insert(slices.Clone(row), n, wrong))
		}
	}
	checkInvalidLeases(t, append(leases(lease(-1, 2, 1, 9)), row...))
	checkInvalidLeases(t, append(slices.Clone(row), lease(401, 401, 1, 9)))
	for _, n := range []int{13, 14, 100, 130} {
		checkInvalidLeases(t, rowOfLeases(n, always(9)))
	}
	// Too many, and neither valid nor in order.
	checkInvalidLeases(t, make([]impl.Lease, 13))
	checkInvalidLeases(t, make([]impl.Lease, 5000))
}

// randomLease has few bytes, sessions and times, so that leases meet.
func randomLease(random *rand.Rand) impl.Lease {
	i := random.Intn(12)
	return lease(i, i+random.Intn(6), 1+random.Intn(4), 1+random.Intn(20))
}

// randomLeases may overlap whatever the session.
func randomLeases(random *rand.Rand) []impl.Lease {
	var list []impl.Lease
	for range random.Intn(14) {
		if l := randomLease(random); len(list) < 12 && modelFind(list, l) < 0 {
			list = append(list, l)
		}
	}
	return modelSorted(list)
}

func randomLeaseEdit(random *rand.Rand) impl.Edit {
	return edit(random.Intn(18), random.Intn(7), strings.Repeat("a", random.Intn(6)))
}

func TestRandomLeases(t *testing.T) {
	random := rand.New(rand.NewSource(71))
	for range 20000 {
		list, l, now := randomLeases(random), randomLease(random), random.Intn(22)
		checkExpire(t, list, now)
		checkWith(t, list, l, now)
		checkMovedLeases(t, list, randomLeaseEdit(random))
		checkBars(t, list, random.Intn(6), randomLeaseEdit(random), now)
		checkAllLeases(t, list, random.Intn(6))
		for _, own := range list {
			own.Till = l.Till
			checkWith(t, list, own, now)
		}
		// Two neighbours that change places, or a field that changes.
		if len(list) > 1 {
			n := random.Intn(len(list) - 1)
			list[n], list[n+1] = list[n+1], list[n]
			checkInvalidLeases(t, list)
			list[n] = l
			checkExpire(t, list, now)
			checkWith(t, list, l, now)
		}
	}
}

// checkActive asserts the guarantee of the chapter.
func checkActive(t *testing.T, list []impl.Lease, now int) {
	t.Helper()
	checkLeasesOk(t, list, true)
	for i, a := range list {
		for _, b := range list[i+1:] {
			if a.Session != b.Session && a.Till > now && b.Till > now && modelOverlap(a, b) {
				t.Fatalf("at %d, both %v and %v are active", now, a, b)
			}
		}
	}
}

// checkBarred takes a lease for each byte that an edit must not cut, and for each place at which it must not insert.
func checkBarred(t *testing.T, list []impl.Lease, session int, e impl.Edit, now int) {
	t.Helper()
	var barred bool
	for _, l := range list {
		if l.Session == session || l.Till <= now {
			continue
		}
		for at := e.At; at < e.At+e.Cut; at++ {
			barred = barred || l.I <= at && at < l.J
		}
		barred = barred || e.Cut == 0 && l.I < e.At && e.At < l.J
	}
	checkBarsIs(t, list, session, e, now, barred)
}

func TestActiveLeasesNeverOverlap(t *testing.T) {
	random := rand.New(rand.NewSource(72))
	done := map[string]int{}
	for range 400 {
		var list []impl.Lease
		for now := 0; now < 60; now += random.Intn(2) {
			l := randomLease(random)
			l.Till = min(now+random.Intn(12), 1000)
			list = leasesAfter(t, random, list, l, now, done)
			checkActive(t, list, now)
			checkBarred(t, list, random.Intn(6), randomLeaseEdit(random), now)
		}
	}
	for _, what := range []string{"taken", "held", "renewed", "too late", "dropped", "moved", "expired", "empty or equal"} {
		if done[what] < 100 {
			t.Errorf("%s: only %d times", what, done[what])
		}
	}
}

// leasesAfter executes one random operation, and counts what it has done.
func leasesAfter(t *testing.T, random *rand.Rand, list []impl.Lease, l impl.Lease, now int, done map[string]int) []impl.Lease {
	t.Helper()
	if n := random.Intn(len(list) + 1); n < len(list) && random.Intn(2) == 0 {
		l.I, l.J, l.Session = list[n].I, list[n].J, list[n].Session
	}
	switch random.Intn(9) {
	case 0, 1, 2, 3:
		next, code := impl.LeaseTake(list, l, now)
		if code == impl.LeaseFine {
			done["taken"]++
			return next
		}
		if code == impl.LeaseHeld {
			done["held"]++
		}
	case 4, 5:
		next, code := impl.LeaseRenew(list, l, now)
		if code == impl.LeaseFine {
			done["renewed"]++
			return next
		}
		if code == impl.LeaseNone && modelFind(list, l) >= 0 {
			done["too late"]++
		}
	case 6:
		if next, code := impl.LeaseDrop(list, l); code == impl.LeaseFine {
			done["dropped"]++
			return next
		}
	case 7:
		next := impl.LeaseMoved(list, randomLeaseEdit(random))
		done["moved"]++
		if len(next) < len(list) {
			done["empty or equal"]++
		}
		return next
	case 8:
		next := impl.LeaseExpire(list, now)
		if len(next) < len(list) {
			done["expired"]++
		}
		return next
	}
	return list
}

// roomyLeases have more leases behind the end of the list. It returns the list and all of its memory.
func roomyLeases(list []impl.Lease) ([]impl.Lease, []impl.Lease) {
	behind := leases(lease(0, 1, 1, 1), lease(-1, 500, 0, 7), lease(200, 201, 8, 1000))
	whole := slices.Concat(list, behind)
	return whole[:len(list)], whole
}

// checkOwnLeases overwrites a result, and then looks at the argument and at another result.
func checkOwnLeases(t *testing.T, name string, list []impl.Lease, call func(list []impl.Lease) []impl.Lease) {
	t.Helper()
	short, whole := roomyLeases(list)
	before := slices.Clone(whole)
	first, second := call(short), call(short)
	want := slices.Clone(second)
	if !slices.Equal(whole, before) {
		t.Fatalf("%s of %v changed its argument to %v", name, before, whole)
	}
	if exact := call(slices.Clip(slices.Clone(list))); !slices.Equal(exact, want) {
		t.Fatalf("%s of %v reads what is behind the list: %v", name, list, want)
	}
	for i := range first[:cap(first)] {
		first[:cap(first)][i] = lease(-7, -7, -7, -7)
	}
	if !slices.Equal(whole, before) {
		t.Fatalf("the result of %s shares memory with its argument %v", name, before)
	}
	if !slices.Equal(second, want) {
		t.Fatalf("two results of %s share memory", name)
	}
	for i := range whole {
		whole[i] = lease(-9, -9, -9, -9)
	}
	if !slices.Equal(second, want) {
		t.Fatalf("the result %v of %s changes with its argument", want, name)
	}
}

func TestLeasesShareNoMemory(t *testing.T) {
	row := rowOfLeases(12, func(k int) int { return 9 + k%2 })
	lists := [][]impl.Lease{nil, row[:1], row[:2], row[:5], row[:11], row, leases(row[1], row[0]), leases(lease(2, 7, 1, 8), lease(3, 7, 1, 9), lease(5, 5, 1, 7))}
	for _, list := range lists {
		for _, l := range leases(lease(100, 101, 1, 20), lease(1, 2, 1, 20), lease(0, 1, 7, 20), row[0], row[1], lease(3, 7, 1, 40), lease(-1, 0, 0, 0)) {
			for _, now := range []int{-1, 0, 8, 9, 10, 20} {
				checkOwnLeases(t, "LeaseTake", list, func(list []impl.Lease) []impl.Lease {
					got, _ := impl.LeaseTake(list, l, now)
					return got
				})
				checkOwnLeases(t, "LeaseRenew", list, func(list []impl.Lease) []impl.Lease {
					got, _ := impl.LeaseRenew(list, l, now)
					return got
				})
				checkOwnLeases(t, "LeaseExpire", list, func(list []impl.Lease) []impl.Lease { return impl.LeaseExpire(list, now) })
			}
			checkOwnLeases(t, "LeaseDrop", list, func(list []impl.Lease) []impl.Lease {
				got, _ := impl.LeaseDrop(list, l)
				return got
			})
			checkOwnLeases(t, "LeaseAll", list, func(list []impl.Lease) []impl.Lease { return impl.LeaseAll(list, l.Session) })
		}
		for _, e := range []impl.Edit{{}, edit(1, 0, "xy"), edit(2, 3, ""), edit(0, 400, ""), edit(0, 0, strings.Repeat("a", 400)), edit(-1, 0, "")} {
			checkOwnLeases(t, "LeaseMoved", list, func(list []impl.Lease) []impl.Lease { return impl.LeaseMoved(list, e) })
		}
	}
}

func TestLeaseFunctionsThatAnswerModifyNothing(t *testing.T) {
	for _, list := range [][]impl.Lease{rowOfLeases(12, always(9)), leases(lease(0, 9, 1, 9), lease(2, 3, 2, 4)), leases(lease(2, 3, 2, 4), lease(0, 9, 1, 9))} {
		short, whole := roomyLeases(list)
		before := slices.Clone(whole)
		e, memory := roomyEdit(1, 3, "ab\u20ac")
		bytesBefore := wholeRope(memory)
		for now := range 11 {
			impl.LeasesOk(short)
			impl.LeaseMoved(short, e)
			checkBars(t, short, 2, e, now)
			checkBars(t, short[:1], 2, e, now)
		}
		if !slices.Equal(whole, before) || wholeRope(memory) != bytesBefore {
			t.Fatalf("%v became %v, and %s became %s", before, whole, bytesBefore, wholeRope(memory))
		}
	}
}
