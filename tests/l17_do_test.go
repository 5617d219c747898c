package tests

import (
	"fmt"
	"math"
	"reflect"
	"runtime"
	"slices"
	"testing"

	"loop.example/g00494/impl"
)

// outcome is the document's Do, written out.
func outcome(h impl.House, q impl.Req) (impl.House, impl.Reply) {
	if code := firstReason(h, q); code != 0 {
		return h, impl.Reply{Code: code}
	}
	switch q.Kind {
	case 1:
		return joined(h, q), impl.Reply{}
	case 2:
		return cancelled(h, q.Id), impl.Reply{}
	case 3:
		return freed(h, q.Cabin, q.Size), impl.Reply{}
	case 4:
		return accepted(h, q.Id), impl.Reply{}
	case 5:
		return declined(h, q.Id), impl.Reply{}
	case 6:
		return ticked(h), impl.Reply{}
	default:
		after, ids := picked(h, q.Id)
		return after, impl.Reply{Ids: ids}
	}
}

// calledDirectly is what the program's function for a kind gives.
func calledDirectly(h impl.House, q impl.Req) (impl.House, impl.Reply) {
	var after impl.House
	var reply impl.Reply
	switch q.Kind {
	case 1:
		after, reply.Code = impl.Join(h, q.Id, q.Cabin, q.From, q.Size, q.Tier)
	case 2:
		after, reply.Code = impl.Cancel(h, q.Id)
	case 3:
		after, reply.Code = impl.FreeSeats(h, q.Cabin, q.Size)
	case 4:
		after, reply.Code = impl.Accept(h, q.Id)
	case 5:
		after, reply.Code = impl.Decline(h, q.Id)
	case 6:
		after, reply.Code = impl.Tick(h)
	default:
		after, reply.Code, reply.Ids = impl.Pick(h, q.Id)
	}
	return after, reply
}

func replyEqual(a, b impl.Reply) bool {
	return a.Code == b.Code && len(a.Ids) == len(b.Ids) && fmt.Sprint(a.Ids) == fmt.Sprint(b.Ids)
}

// wantDo returns what Do gives, with all that is promised of it.
func wantDo(t *testing.T, h impl.House, q impl.Req) (impl.House, impl.Reply) {
	t.Helper()
	got, reply := impl.Do(h, q)
	want, wantReply := outcome(h, q)
	if !houseEqual(got, want) || !replyEqual(reply, wantReply) {
		t.Errorf("Do of %+v in %+v = %+v, %+v, want %+v, %+v", q, h, got, reply, want, wantReply)
	}
	if code := impl.Verdict(h, q); reply.Code != code {
		t.Errorf("Do of %+v in %+v has the code %d, and Verdict is %d", q, h, reply.Code, code)
	}
	if reply.Code == 0 {
		wantHouse(t, got)
		wantHouseOk(t, got, true)
		wantTotals(t, h, got)
	} else if !houseEqual(got, h) || len(reply.Ids) > 0 {
		t.Errorf("Do rejects %+v in %+v with %+v and leaves %+v", q, h, reply, got)
	}
	if formRight(q) {
		direct, same := calledDirectly(h, q)
		if !houseEqual(got, direct) || !replyEqual(reply, same) {
			t.Errorf("Do of %+v in %+v = %+v, %+v, and the function itself gives %+v, %+v", q, h, got, reply, direct, same)
		}
	}
	return got, reply
}

// wantNoDo expects the state that went in and the first of the reasons, which
// are all that hold.
func wantNoDo(t *testing.T, h impl.House, q impl.Req, reasons ...int) {
	t.Helper()
	wantVerdict(t, h, q, reasons...)
	wantFirstCode(t, h, q, reasons[0])
}

// wantFirstCode leaves open which other reasons hold.
func wantFirstCode(t *testing.T, h impl.House, q impl.Req, want int) {
	t.Helper()
	if _, reply := wantDo(t, h, q); reply.Code != want {
		t.Errorf("Do of %+v in %+v has the code %d, want %d", q, h, reply.Code, want)
	}
}

// wantDone expects that the request is performed.
func wantDone(t *testing.T, h impl.House, q impl.Req) (impl.House, []int) {
	t.Helper()
	got, reply := wantDo(t, h, q)
	if reply.Code != 0 {
		t.Errorf("Do of %+v in %+v has the code %d", q, h, reply.Code)
	}
	return got, reply.Ids
}

// wantDoAll compares with the requests performed one by one, as they are written
// out and as Do performs them.
func wantDoAll(t *testing.T, h impl.House, list ...impl.Req) (impl.House, []impl.Reply) {
	t.Helper()
	want, step := h, h
	var wantReplies, steps []impl.Reply
	for _, q := range list {
		next, reply := outcome(want, q)
		want, wantReplies = next, append(wantReplies, reply)
		next, reply = impl.Do(step, q)
		step, steps = next, append(steps, reply)
	}
	got, replies := impl.DoAll(h, list)
	if !houseEqual(got, want) || !slices.EqualFunc(replies, wantReplies, replyEqual) {
		t.Errorf("DoAll of %+v in %+v = %+v, %+v, want %+v, %+v", list, h, got, replies, want, wantReplies)
	}
	if !houseEqual(got, step) || !slices.EqualFunc(replies, steps, replyEqual) {
		t.Errorf("DoAll of %+v in %+v = %+v, %+v, and Do one by one gives %+v, %+v", list, h, got, replies, step, steps)
	}
	wantCodes(t, replies)
	return got, replies
}

func wantCodes(t *testing.T, list []impl.Reply) {
	t.Helper()
	codes := impl.Codes(list)
	if len(codes) != len(list) {
		t.Fatalf("Codes(%+v) = %v", list, codes)
	}
	for i, reply := range list {
		if codes[i] != reply.Code {
			t.Errorf("Codes(%+v) = %v", list, codes)
		}
	}
}

func wantCodesOf(t *testing.T, list []impl.Reply, want ...int) {
	t.Helper()
	if got := impl.Codes(list); !slices.Equal(got, want) {
		t.Errorf("Codes(%+v) = %v, want %v", list, got, want)
	}
}

// standingFound is the document's Ask, written out. A place is the number of
// parties of the cabin that wait ahead.
func standingFound(h impl.House, id int) (impl.Standing, bool) {
	at := placeFound(h.Parties, id)
	if len(houseFaults(h)) > 0 || at < 0 {
		return impl.Standing{}, false
	}
	p := h.Parties[at]
	level := func(p impl.Party) int { return levelAfter(h.Rules, p.Tier, h.Now-p.Since) }
	s := impl.Standing{State: p.State, Cabin: p.Cabin, Level: level(p), Place: -1, Asked: p.Asked}
	for now := h.Now; now < p.Until; now++ {
		s.Left++
	}
	if p.State == 2 {
		return s, true
	}
	s.Place = 0
	for _, q := range h.Parties {
		if q.State == 1 && q.Cabin == p.Cabin && (level(q) < level(p) || level(q) == level(p) && q.Turn < p.Turn) {
			s.Place++
		}
	}
	return s, true
}

// wantAsk returns the Standing, which is zero if there is no such party.
func wantAsk(t *testing.T, h impl.House, id int) impl.Standing {
	t.Helper()
	want, wantOk := standingFound(h, id)
	got, ok := impl.Ask(h, id)
	if got != want || ok != wantOk {
		t.Errorf("Ask(%+v, %d) = %+v, %v, want %+v, %v", h, id, got, ok, want, wantOk)
	}
	if ok && got.Place != impl.PlaceOf(h, id) {
		t.Errorf("Ask(%+v, %d) = %+v, and PlaceOf is %d", h, id, got, impl.PlaceOf(h, id))
	}
	return got
}

func wantStanding(t *testing.T, h impl.House, id int, want impl.Standing) {
	t.Helper()
	if got := wantAsk(t, h, id); got != want {
		t.Errorf("Ask(%+v, %d) = %+v, want %+v", h, id, got, want)
	}
}

func wantNoStanding(t *testing.T, h impl.House, id int) {
	t.Helper()
	if got, ok := impl.Ask(h, id); ok || got != (impl.Standing{}) {
		t.Errorf("Ask(%+v, %d) = %+v, %v, want the zero Standing and false", h, id, got, ok)
	}
}

func wantSameReply(t *testing.T, a, b impl.Reply, want bool) {
	t.Helper()
	if impl.SameReply(a, b) != want || impl.SameReply(b, a) != want {
		t.Errorf("SameReply(%+v, %+v) = %v, and the other way round %v, want %v", a, b, impl.SameReply(a, b), impl.SameReply(b, a), want)
	}
}

// anyHouse is valid, and of many kinds.
func anyHouse(next func(int) int) impl.House {
	h := needHouse()
	switch next(8) {
	case 0, 1:
		h = randomHouse(next)
	case 2, 3:
		h = tightHouse(next)
	case 4, 5:
		h = scarceHouse(next)
	case 6:
		h = tieredHouse(next)
	}
	switch next(9) {
	case 0, 1:
		return nothingToDo(h)
	case 2:
		return atTurn(h, 1000001)
	case 3:
		return atTick(h, 1000000)
	}
	return h
}

// requestNear is a request of any kind that is near one that can be performed.
func requestNear(next func(int) int, h impl.House) impl.Req {
	q := impl.Req{Kind: 1 + next(7)}
	switch q.Kind {
	case 1:
		q = randomJoin(next, h)
	case 3:
		q.Cabin, q.Size = next(len(h.Cabins)), 1+next(5)
	case 7:
		q.Id = next(h.Rules.Crew)
	case 2, 4, 5:
		q.Id = 1 + next(999)
		if len(h.Parties) > 0 && next(5) > 0 {
			q.Id = h.Parties[next(len(h.Parties))].Id
		}
	}
	if q.Kind == 1 && len(h.Parties) > 0 && next(6) == 0 {
		q.Id = h.Parties[next(len(h.Parties))].Id
	}
	fields := reqFields()
	nums := []int{-2, -1, 0, 1, 2, 3, 5, 6, 7, 60, 61, 1000, 9999, 10000}
	switch next(5) {
	case 0, 1:
		f := fields[next(len(fields))]
		return withReqField(q, f, nums[next(len(nums))])
	case 2:
		if next(6) == 0 {
			q.Kind = otherKinds()[next(len(otherKinds()))]
		}
	}
	return q
}

// kindsOf has the kinds of request that each code can be about; 0 is for all that
// are no kind.
func kindsOf() map[int][]int {
	return map[int][]int{
		2: {0}, 3: {1, 2, 3, 4, 5, 6, 7}, 4: {1, 3}, 5: {1, 3}, 6: {1}, 7: {1, 2, 4, 5}, 8: {1}, 9: {1}, 10: {1}, 11: {1},
		12: {3}, 13: {4, 5}, 14: {4, 5}, 15: {6}, 16: {7}, 17: {7},
	}
}

func wantCounts(t *testing.T, seen map[[2]int]int, least int) {
	t.Helper()
	for code, kinds := range kindsOf() {
		for _, kind := range kinds {
			if seen[[2]int{code, kind}] < least {
				t.Errorf("the code %d of kind %d is seen %d times", code, kind, seen[[2]int{code, kind}])
			}
			delete(seen, [2]int{code, kind})
		}
	}
	for kind := 1; kind <= 7; kind++ {
		if seen[[2]int{0, kind}] < 10*least {
			t.Errorf("kind %d is performed %d times", kind, seen[[2]int{0, kind}])
		}
		delete(seen, [2]int{0, kind})
	}
	if len(seen) > 0 {
		t.Errorf("other codes are seen: %v", seen)
	}
}

// TestRejectedRequestsChangeNothing is P17, both halves of it: wantDo expects
// that a request that is rejected leaves the state as it was, and that one that
// is performed leaves a valid state with the same seats.
func TestRejectedRequestsChangeNothing(t *testing.T) {
	seen := map[[2]int]int{}
	for seed := range 1500 {
		next := mixer(seed)
		h := anyHouse(next)
		wantHouse(t, h)
		for range 25 {
			q := requestNear(next, h)
			_, reply := wantDo(t, h, q)
			if reply.Code == 2 {
				q.Kind = 0
			}
			seen[[2]int{reply.Code, q.Kind}]++
		}
	}
	wantCounts(t, seen, 15)
}

// TestHistories lets each request follow the ones before it.
func TestHistories(t *testing.T) {
	done, rejected, offers := 0, 0, 0
	for seed := range 60 {
		next := mixer(seed)
		h, _ := impl.HouseNew(randomRules(next))
		for range 120 {
			got, reply := wantDo(t, h, requestNear(next, h))
			if reply.Code == 0 {
				done++
			} else {
				rejected++
			}
			offers += len(reply.Ids)
			h = got
		}
	}
	if done < 2000 || rejected < 2000 || offers < 150 {
		t.Errorf("%d requests are performed and %d rejected, and %d offers made", done, rejected, offers)
	}
}

// refusal is a request and all reasons why it is rejected.
type refusal struct {
	h       impl.House
	q       impl.Req
	reasons []int
}

// refusals has every code, in each kind that can be rejected with it.
func refusals() []refusal {
	h := needHouse()
	list := []refusal{
		{h, impl.Req{}, []int{2, 3}}, {h, impl.Req{Kind: 8}, []int{2, 3}}, {h, impl.Req{Kind: -1}, []int{2, 3}},
		{h, joinReq(10, 0, -1, 1, -1), []int{3}}, {h, impl.Req{Kind: 2, Id: 1, Cabin: 1}, []int{3}}, {h, impl.Req{Kind: 3, Id: 1, Size: 1}, []int{3}},
		{h, impl.Req{Kind: 4, Id: 2, Size: 1}, []int{3}}, {h, impl.Req{Kind: 5, Id: 2, Tier: 1}, []int{3}}, {h, impl.Req{Kind: 6, Id: 1}, []int{3}}, {h, impl.Req{Kind: 7, Id: 1, From: -1}, []int{3}},
		{h, joinReq(10, 3, -1, 1, 0), []int{4}}, {h, joinReq(10, 0, 0, 1, 0), []int{4}}, {h, joinReq(10, 2, 3, 1, 0), []int{4, 10}}, {h, freeReq(3, 1), []int{4, 12}},
		{h, joinReq(10, 0, -1, 0, 0), []int{5}}, {h, joinReq(10, 0, -1, 5, 0), []int{5}}, {h, freeReq(0, 0), []int{5}}, {h, freeReq(0, 61), []int{5, 12}},
		{h, joinReq(10, 0, -1, 1, 3), []int{6}},
		{h, joinReq(0, 0, -1, 1, 0), []int{7}}, {h, joinReq(1000, 0, -1, 1, 0), []int{7}}, {h, cancelReq(10), []int{7}}, {h, acceptReq(10), []int{7}}, {h, declineReq(10), []int{7}},
		{h, joinReq(5, 0, -1, 1, 0), []int{8}}, {h, joinReq(2, 2, -1, 1, 0), []int{8}},
		{h, joinReq(10, 1, -1, 1, 0), []int{9}},
		{h, joinReq(10, 2, 1, 1, 0), []int{10}}, {h, joinReq(10, 2, 0, 4, 0), []int{10}},
		{atTurn(h, 1000001), joinReq(10, 0, 2, 1, 0), []int{11}},
		{h, freeReq(0, 4), []int{12}}, {h, freeReq(1, 1), []int{12}}, {h, freeReq(2, 2), []int{12}},
		{atTick(h, 1000000), tickReq(), []int{15}},
		{h, pickReq(2), []int{16}}, {h, pickReq(9999), []int{16}},
		{h, pickReq(0), []int{17}},
	}
	for _, id := range []int{1, 4, 5, 6} {
		list = append(list, refusal{h, acceptReq(id), []int{13}}, refusal{h, declineReq(id), []int{13}})
	}
	for _, id := range []int{7, 8, 9} {
		list = append(list, refusal{h, acceptReq(id), []int{14}}, refusal{h, declineReq(id), []int{14}})
	}
	return list
}

func TestRefusals(t *testing.T) {
	seen := map[[2]int]bool{}
	for _, r := range refusals() {
		wantNoDo(t, r.h, r.q, r.reasons...)
		wantFirstCode(t, brokenHouse(r.h), r.q, 1)
		if r.reasons[0] == 2 {
			r.q.Kind = 0
		}
		seen[[2]int{r.reasons[0], r.q.Kind}] = true
	}
	for code, kinds := range kindsOf() {
		for _, kind := range kinds {
			if !seen[[2]int{code, kind}] {
				t.Errorf("the code %d of kind %d is missing", code, kind)
			}
		}
	}
}

// TestRejectedInAnyState has every code with states whose Todo and Jobs differ,
// all of which come back.
func TestRejectedInAnyState(t *testing.T) {
	for _, todo := range todosOf(3) {
		for _, jobs := range [][]int{{-1, -1}, {-1, 2}, {0, 0}, {1, -1}} {
			for _, r := range refusals() {
				h := r.h
				h.Todo, h.Jobs = todo, jobs
				if r.reasons[0] == 17 && (len(todo) > 0 || jobs[0] != -1) {
					wantDone(t, h, r.q)
					continue
				}
				wantFirstCode(t, h, r.q, r.reasons[0])
			}
		}
	}
}

func TestDoFine(t *testing.T) {
	h := withTodo(needHouse(), 1)
	for _, q := range fineRequests() {
		got, ids := wantDone(t, h, q)
		if houseEqual(got, h) || len(ids) != 0 && q != pickReq(1) {
			t.Errorf("Do of %+v leaves %+v with the Ids %v", q, got, ids)
		}
		wantNoDo(t, brokenHouse(h), q, 1)
	}
}

// TestDoByHand has each kind performed once, with the numbers written down.
func TestDoByHand(t *testing.T) {
	check := func(q impl.Req, change func(h *impl.House)) {
		t.Helper()
		want := handHouse()
		change(&want)
		if got, ids := wantDone(t, handHouse(), q); !houseEqual(got, want) || len(ids) != 0 {
			t.Errorf("Do of %+v = %+v, %v, want %+v", q, got, ids, want)
		}
	}
	check(joinReq(50, 1, 2, 3, 0), func(h *impl.House) {
		h.Turn = 11
		h.Parties = append(h.Parties, impl.Party{Id: 50, Cabin: 1, From: 2, Size: 3, Tier: 0, Since: 7, Turn: 10, State: 1})
		h.Cabins[1].Row = slices.Insert(h.Cabins[1].Row, 0, impl.Entry{Level: 0, Turn: 10, Id: 50, Size: 3})
		h.Cabins[2].Seats = ledger(40, 1, 0, 39, 6)
		h.Todo = []int{2, 0, 1}
	})
	check(cancelReq(5), func(h *impl.House) {
		h.Parties = slices.Delete(h.Parties, 4, 5)
		h.Cabins[0].Row = h.Cabins[0].Row[1:]
		h.Cabins[2].Seats = ledger(40, 1, 0, 39, 1)
	})
	check(freeReq(1, 21), func(h *impl.House) {
		h.Cabins[1].Seats = ledger(30, 21, 8, 1, 1)
		h.Todo = []int{2, 0, 1}
	})
	check(acceptReq(7), func(h *impl.House) {
		h.Parties = slices.Delete(h.Parties, 6, 7)
		h.Cabins[1].Seats = ledger(30, 0, 4, 26, 1)
		h.Cabins[1].Wheel = wheel(pin(8, 9), pin(10, 2))
	})
	check(declineReq(7), func(h *impl.House) {
		h.Parties = slices.Delete(h.Parties, 6, 7)
		h.Cabins[1].Seats = ledger(30, 4, 4, 22, 1)
		h.Cabins[1].Wheel = wheel(pin(8, 9), pin(10, 2))
		h.Todo = []int{2, 0, 1}
	})
	check(tickReq(), func(h *impl.House) {
		h.Now, h.Todo = 8, []int{2, 0, 1}
		h.Cabins[1].Row[0].Level = 0
	})
	check(pickReq(0), func(h *impl.House) { h.Todo, h.Jobs = []int{0}, []int{2, 1} })

	h := withJob(needHouse(), 0, 0)
	got, ids := wantDone(t, h, pickReq(0))
	if !slices.Equal(ids, []int{5, 1}) || got.Jobs[0] != -1 || got.Cabins[0].Seats != ledger(20, 6, 7, 7, 4) {
		t.Errorf("Do of a RqPick = %+v, %v", got, ids)
	}
}

// TestDoUsesEachField has fields that all differ, so that none can stand for
// another one.
func TestDoUsesEachField(t *testing.T) {
	nums := []int{0, 1, 2, 3, 4}
	r := withSeats(greatestRules(), 60, 60, 60, 60)
	h := withTodo(houseMade(r, 0, 9), 3)
	done := 0
	for _, order := range ordersOf(5) {
		q := joinReq(nums[order[0]], nums[order[1]], nums[order[2]], nums[order[3]], nums[order[4]])
		got, reply := wantDo(t, h, q)
		if reply.Code != 0 {
			continue
		}
		done++
		want := impl.Party{Id: q.Id, Cabin: q.Cabin, From: q.From, Size: q.Size, Tier: q.Tier, Turn: 9, State: 1}
		if len(got.Parties) != 1 || got.Parties[0] != want || got.Cabins[q.From].Seats.Tied != q.Size {
			t.Errorf("Do of %+v leaves %+v", q, got)
		}
	}
	if done < 20 {
		t.Errorf("only %d requests are performed", done)
	}
	for cabin := range 4 {
		for size := 1; size <= 60; size++ {
			got, _ := wantDone(t, newHouse(r), freeReq(cabin, size))
			if got.Cabins[cabin].Seats != ledger(60, size, 0, 60-size, 0) || !slices.Equal(got.Todo, []int{cabin}) {
				t.Errorf("Do frees %d seats of cabin %d and leaves %+v", size, cabin, got)
			}
		}
	}
}

// TestDoOfEachParty has all the requests about a party, each of which is about
// that party alone.
func TestDoOfEachParty(t *testing.T) {
	for _, h := range []impl.House{handHouse(), needHouse(), offersHouse([]int{-1, 0, 2}, 7, 8, 9, 14, 5), rowOf([]int{2, 0, 3, 1}, -1, 2)} {
		for _, p := range h.Parties {
			for _, q := range []impl.Req{cancelReq(p.Id), acceptReq(p.Id), declineReq(p.Id)} {
				got, reply := wantDo(t, h, q)
				if !slices.Equal(cutFrom(got.Parties, p.Id), cutFrom(h.Parties, p.Id)) {
					t.Errorf("Do of %+v turns the parties %+v into %+v", q, h.Parties, got.Parties)
				}
				if want := firstReason(h, q); reply.Code != want {
					t.Errorf("Do of %+v has the code %d, want %d", q, reply.Code, want)
				}
			}
		}
	}
}

// TestDoIds has a RqPick whose worker has a cabin, with none, one and several
// offers, and one that takes a cabin.
func TestDoIds(t *testing.T) {
	for _, c := range []struct {
		h    impl.House
		want []int
	}{
		{houseMade(withSeats(greatestRules(), 20, 30), 6, 9), nil},
		{fitRow(0, 1, 1), nil}, {fitRow(3, 4, 3), []int{2}}, {fitRow(6, 4, 3, 2, 1), []int{1, 3}}, {fitRow(10, 1, 2, 3, 4), []int{1, 2, 3, 4}},
		{lateRow(2, 3, 0), []int{6}}, {lateRow(0, 2, 3), []int{5, 6}}, {lateRow(3, 6, 1), nil},
	} {
		for who := range 3 {
			h := withTodo(withJob(withJob(c.h, (who+1)%3, -1), who, 1), 1, 0)
			if _, ids := wantDone(t, h, pickReq(who)); !slices.Equal(ids, c.want) {
				t.Errorf("Do of a RqPick in %+v has the Ids %v, want %v", h, ids, c.want)
			}
			h = withJob(h, who, -1)
			got, ids := wantDone(t, h, pickReq(who))
			if len(ids) != 0 || got.Jobs[who] != 1 || !slices.Equal(got.Todo, []int{0}) {
				t.Errorf("Do of a RqPick takes a cabin in %+v and leaves %+v, %v", h, got, ids)
			}
			if _, ids := wantDone(t, got, pickReq(who)); !slices.Equal(ids, c.want) {
				t.Errorf("Do of a second RqPick in %+v has the Ids %v, want %v", got, ids, c.want)
			}
			for _, q := range []impl.Req{tickReq(), freeReq(1, 1), joinReq(900, 1, -1, 1, 0), cancelReq(1)} {
				if _, reply := wantDo(t, h, q); len(reply.Ids) != 0 {
					t.Errorf("Do of %+v in %+v has the Ids %v", q, h, reply.Ids)
				}
			}
		}
	}
}

// TestDoIdsInOrder has parties whose offers are made in another order than that
// of their Ids.
func TestDoIdsInOrder(t *testing.T) {
	for _, places := range ordersOf(4) {
		h := rowOf(places, -1)
		h.Now = 10
		h = withJob(remade(h, h.Parties...), 1, 1)
		wantHouse(t, h)
		_, ids := wantDone(t, h, pickReq(1))
		for i, place := range places {
			if len(ids) != 4 || ids[place] != 10*(i+1) {
				t.Errorf("with the places %v, Do has the Ids %v", places, ids)
			}
		}
	}
}

func TestDoKind(t *testing.T) {
	for _, kind := range append(otherKinds(), impl.RqPick+1) {
		for _, h := range []impl.House{needHouse(), handHouse(), newHouse(plainRules()), atTurn(needHouse(), 1000001), atTick(needHouse(), 1000000)} {
			for _, q := range []impl.Req{{}, {Id: 1}, {Id: -1}, {Cabin: 1, Size: 1}, {From: -1}, {Id: 99999, Cabin: 77, From: -5, Size: 99, Tier: -1}, joinReq(10, 0, -1, 1, 0)} {
				q.Kind = kind
				wantNoDo(t, h, q, 2, 3)
				wantNoDo(t, brokenHouse(h), q, 1, 2, 3)
			}
		}
	}
}

// TestDoForm changes one field of requests that would be performed.
func TestDoForm(t *testing.T) {
	h := withTodo(needHouse(), 1)
	for _, q := range fineRequests() {
		for _, f := range reqFields() {
			used := slices.Contains(usedBy(q.Kind), f.name)
			for _, n := range append(extremes(), -10000, -2, -1, 1, 2, 60, 9999, 10000, 1<<32) {
				changed := withReqField(q, f, n)
				if used && n >= 0 && n <= 9999 || used && f.name == "From" && n == -1 {
					wantDo(t, h, changed)
					continue
				}
				for _, at := range []impl.House{h, brokenHouse(h)} {
					want := 3
					if len(at.Jobs) > 2 {
						want = 1
					}
					if got, reply := wantDo(t, at, changed); reply.Code != want || !houseEqual(got, at) {
						t.Errorf("Do of %+v in %+v = %+v, %+v, want the code %d", changed, at, got, reply, want)
					}
				}
			}
		}
	}
}

// TestDoFirstReason has several reasons at once.
func TestDoFirstReason(t *testing.T) {
	h := needHouse()
	wantNoDo(t, h, impl.Req{Kind: 9, Id: -1, Cabin: 3, From: -2, Size: 10000, Tier: -4}, 2, 3)
	wantNoDo(t, h, joinReq(10000, 3, -1, 5, -1), 3, 4, 5, 7)
	wantNoDo(t, h, joinReq(0, 3, 3, 5, 3), 4, 5, 6, 7, 10)
	wantNoDo(t, h, joinReq(0, 1, -1, 5, 3), 5, 6, 7, 9)
	wantNoDo(t, h, joinReq(0, 1, 0, 4, 3), 6, 7, 9, 10)
	wantNoDo(t, h, joinReq(0, 1, 0, 4, 1), 7, 9, 10)
	wantNoDo(t, atTurn(h, 1000001), joinReq(5, 1, 0, 4, 1), 8, 9, 10, 11)
	wantNoDo(t, atTurn(h, 1000001), joinReq(10, 1, 0, 4, 1), 9, 10, 11)
	wantNoDo(t, atTurn(h, 1000001), joinReq(10, 2, 0, 4, 1), 10, 11)
	wantNoDo(t, h, impl.Req{Kind: 2, Id: 10, Size: 1}, 3, 7)
	wantNoDo(t, h, impl.Req{Kind: 3, Cabin: 3, Size: -1}, 3, 4, 5)
	wantNoDo(t, h, freeReq(3, 61), 4, 5, 12)
	wantNoDo(t, h, impl.Req{Kind: 4, Id: 1, Cabin: 1}, 3, 13)
	wantNoDo(t, h, impl.Req{Kind: 5, Id: 7, Tier: -1}, 3, 14)
	wantNoDo(t, atTick(h, 1000000), impl.Req{Kind: 6, Id: 1}, 3, 15)
	wantNoDo(t, h, impl.Req{Kind: 7, Id: 2, Size: 1}, 3, 16)
	wantNoDo(t, h, impl.Req{Kind: 7, Id: 0, From: -1}, 3, 17)
}

// TestDoHouse has states that are not valid, in every way, with requests that
// are right and wrong.
func TestDoHouse(t *testing.T) {
	list := append(fineRequests(), impl.Req{}, impl.Req{Kind: 8, Id: -1}, impl.Req{Kind: 6, Tier: 1}, joinReq(-1, -1, -2, -1, -1), freeReq(9, 99), pickReq(3), cancelReq(500))
	for _, h := range append(badHouses(), brokenHouse(needHouse()), impl.House{}) {
		for _, q := range list {
			got, reply := impl.Do(h, q)
			if !houseEqual(got, h) || reply.Code != 1 || len(reply.Ids) != 0 {
				t.Errorf("Do of %+v in %+v = %+v, %+v, want the code 1", q, h, got, reply)
			}
		}
		got, replies := impl.DoAll(h, list)
		if !houseEqual(got, h) || !slices.Equal(impl.Codes(replies), slices.Repeat([]int{1}, len(list))) {
			t.Errorf("DoAll in %+v = %+v, %+v", h, got, replies)
		}
		got, replies = impl.DoAll(h, nil)
		if !houseEqual(got, h) || len(replies) != 0 {
			t.Errorf("DoAll of nothing in %+v = %+v, %+v", h, got, replies)
		}
	}
}

func TestDoAllOfNothing(t *testing.T) {
	for _, h := range append(append(someHouses(), badHouses()...), sharingHouse(), brokenHouse(needHouse()), impl.House{}) {
		for _, list := range [][]impl.Req{nil, {}, make([]impl.Req, 0, 3), []impl.Req{tickReq()}[:0]} {
			got, replies := impl.DoAll(h, list)
			if !houseEqual(got, h) || len(replies) != 0 {
				t.Errorf("DoAll of nothing in %+v = %+v, %+v", h, got, replies)
			}
			wantCodesOf(t, replies)
		}
	}
}

func TestDoAllOfOne(t *testing.T) {
	for _, h := range []impl.House{needHouse(), withTodo(needHouse(), 1), handHouse(), brokenHouse(handHouse())} {
		for _, q := range fineRequests() {
			wantDoAll(t, h, q)
		}
		for _, r := range refusals() {
			wantDoAll(t, r.h, r.q)
			wantDoAll(t, h, r.q)
		}
	}
}

// requestsFrom has requests each of which is near one that can be performed when
// its turn comes.
func requestsFrom(next func(int) int, h impl.House, n int) []impl.Req {
	var list []impl.Req
	for range n {
		q := requestNear(next, h)
		list = append(list, q)
		h, _ = impl.Do(h, q)
	}
	return list
}

// TestDoAllOfMany also leaves the rejected requests out, and divides the list at
// each place.
func TestDoAllOfMany(t *testing.T) {
	done, rejected, offers := 0, 0, 0
	for seed := range 240 {
		next := mixer(seed)
		first := anyHouse(next)
		list := requestsFrom(next, first, 1+next(30))
		h, replies := wantDoAll(t, first, list...)
		wantHouse(t, h)
		var fine []impl.Req
		var fineReplies []impl.Reply
		for i, reply := range replies {
			offers += len(reply.Ids)
			if reply.Code == 0 {
				fine = append(fine, list[i])
				fineReplies = append(fineReplies, reply)
			}
		}
		done, rejected = done+len(fine), rejected+len(list)-len(fine)
		got, left := wantDoAll(t, first, fine...)
		if !houseEqual(got, h) || !slices.EqualFunc(left, fineReplies, replyEqual) {
			t.Errorf("without those that are rejected, DoAll of %+v in %+v = %+v, %+v, want %+v, %+v", list, first, got, left, h, fineReplies)
		}
		for at := range len(list) + 1 {
			between, front := impl.DoAll(first, list[:at])
			got, back := impl.DoAll(between, list[at:])
			if both := slices.Concat(front, back); !houseEqual(got, h) || !slices.EqualFunc(both, replies, replyEqual) {
				t.Errorf("DoAll of %+v, divided at %d, in %+v = %+v, %+v, want %+v, %+v", list, at, first, got, both, h, replies)
			}
		}
	}
	if done < 500 || rejected < 500 || offers < 60 {
		t.Errorf("%d requests are performed and %d rejected, and %d offers made", done, rejected, offers)
	}
}

// TestDoAllByHand has the replies of each list written down.
func TestDoAllByHand(t *testing.T) {
	h := needHouse()
	join, full := joinReq(10, 0, 2, 1, 1), joinReq(20, 1, -1, 2, 0)
	for _, c := range []struct {
		h     impl.House
		list  []impl.Req
		codes []int
	}{
		{h, []impl.Req{join, join}, []int{0, 8}},
		{h, []impl.Req{join, join, join, tickReq()}, []int{0, 8, 8, 0}},
		{h, []impl.Req{cancelReq(4), cancelReq(4)}, []int{0, 7}},
		{h, []impl.Req{acceptReq(2), acceptReq(2)}, []int{0, 7}},
		{h, []impl.Req{declineReq(3), declineReq(3)}, []int{0, 13}},
		{h, []impl.Req{join, cancelReq(10), join, cancelReq(10), cancelReq(10)}, []int{0, 0, 0, 0, 7}},
		{h, []impl.Req{full, cancelReq(6), full, full}, []int{9, 0, 0, 8}},
		{h, []impl.Req{full, cancelReq(10), full, acceptReq(2), full}, []int{9, 7, 9, 0, 0}},
		{h, []impl.Req{pickReq(0), freeReq(0, 1), pickReq(0), pickReq(0), pickReq(0)}, []int{17, 0, 0, 0, 17}},
		{h, []impl.Req{pickReq(0), tickReq(), pickReq(0)}, []int{17, 0, 0}},
		{h, []impl.Req{freeReq(0, 4), freeReq(0, 2), freeReq(0, 2), freeReq(0, 1), freeReq(0, 1)}, []int{12, 0, 12, 0, 12}},
		{h, []impl.Req{joinReq(10, 2, 0, 3, 0), joinReq(11, 2, 0, 1, 0), cancelReq(10), joinReq(11, 2, 0, 1, 0)}, []int{0, 10, 0, 0}},
		{h, []impl.Req{acceptReq(2), tickReq(), acceptReq(3), declineReq(7)}, []int{0, 0, 14, 14}},
		{h, []impl.Req{{}, {Kind: 6, Id: 1}, tickReq(), freeReq(9, 1), pickReq(2), {Kind: 8}}, []int{2, 3, 0, 4, 16, 2}},
		{atTick(h, 999999), []impl.Req{tickReq(), tickReq(), tickReq()}, []int{0, 15, 15}},
		{atTurn(h, 1000000), []impl.Req{joinReq(10, 2, -1, 1, 0), joinReq(11, 2, -1, 1, 0), cancelReq(10), joinReq(10, 2, -1, 1, 0)}, []int{0, 11, 0, 11}},
		{brokenHouse(h), []impl.Req{join, tickReq(), {}}, []int{1, 1, 1}},
	} {
		_, replies := wantDoAll(t, c.h, c.list...)
		wantCodesOf(t, replies, c.codes...)
	}
}

// TestAcceptBeforeTheOffer also has the Ids of each reply.
func TestAcceptBeforeTheOffer(t *testing.T) {
	r := withSeats(greatestRules(), 8, 4)
	h := newHouse(r)
	list := []impl.Req{
		acceptReq(9), joinReq(9, 1, 0, 2, 1), acceptReq(9), joinReq(8, 1, -1, 1, 1), pickReq(2), declineReq(8), pickReq(2),
		freeReq(1, 3), pickReq(2), acceptReq(9), pickReq(2), acceptReq(9), pickReq(0), acceptReq(9), pickReq(0),
	}
	got, replies := wantDoAll(t, h, list...)
	wantCodesOf(t, replies, 7, 0, 13, 0, 0, 13, 0, 0, 0, 13, 0, 0, 0, 7, 0)
	for i, reply := range replies {
		if i == 10 && !slices.Equal(reply.Ids, []int{9, 8}) || i != 10 && len(reply.Ids) != 0 {
			t.Errorf("reply %d is %+v", i, reply)
		}
	}
	if len(got.Parties) != 1 || got.Cabins[0].Seats != ledger(8, 2, 0, 6, 0) || got.Cabins[1].Seats != ledger(4, 0, 1, 3, 0) || len(got.Todo) != 0 {
		t.Errorf("the requests leave %+v", got)
	}
}

func TestDoAllRejected(t *testing.T) {
	var list []impl.Req
	var codes []int
	h := needHouse()
	for _, r := range refusals() {
		if r.h.Now == h.Now && r.h.Turn == h.Turn {
			list, codes = append(list, r.q), append(codes, r.reasons[0])
		}
	}
	got, replies := wantDoAll(t, h, list...)
	wantCodesOf(t, replies, codes...)
	if !houseEqual(got, h) || len(list) < 40 {
		t.Errorf("%d requests that are all rejected turn %+v into %+v", len(list), h, got)
	}
	for i, reply := range replies {
		if len(reply.Ids) != 0 {
			t.Errorf("the reply to %+v is %+v", list[i], reply)
		}
	}
}

func TestAskByHand(t *testing.T) {
	now := handHouse()
	for id, want := range map[int]impl.Standing{
		1: {State: 1, Cabin: 0, Level: 2, Place: 1},
		2: {State: 2, Cabin: 1, Level: 0, Place: -1, Left: 3},
		3: {State: 2, Cabin: 0, Level: 0, Place: -1, Left: 2},
		4: {State: 1, Cabin: 1, Level: 1, Place: 0, Left: 2, Asked: 1},
		5: {State: 1, Cabin: 0, Level: 1, Place: 0},
		6: {State: 1, Cabin: 1, Level: 1, Place: 1},
		7: {State: 2, Cabin: 1, Level: 0, Place: -1, Left: 1, Asked: 2},
		8: {State: 2, Cabin: 0, Level: 1, Place: -1, Left: 1},
		9: {State: 2, Cabin: 1, Level: 2, Place: -1, Left: 1},
	} {
		wantStanding(t, now, id, want)
		later := atTick(now, 9)
		want.Left = max(want.Left-2, 0)
		switch id {
		case 4, 6:
			want.Level = 0
		}
		wantStanding(t, later, id, want)
		wantNoStanding(t, brokenHouse(now), id)
	}
	for _, id := range append(extremes(), -1, 0, 10, 50, 999, 1000, 1001, 9999, 1<<32+1, -1<<32+1) {
		wantNoStanding(t, now, id)
		wantNoStanding(t, brokenHouse(now), id)
	}
}

// TestAskLeft has each Until around Now, of a party that waits and of one that
// is offered.
func TestAskLeft(t *testing.T) {
	for _, now := range []int{0, 1, 6, 30, 999999, 1000000} {
		for until := max(now-9, 0); until <= now+8; until++ {
			for state := 1; state <= 2; state++ {
				for asked := range 4 {
					p := impl.Party{Id: 7, Cabin: 1, From: 0, Size: 2, Tier: 1, Turn: 1, State: state, Until: until, Asked: asked}
					h := houseMade(withSeats(greatestRules(), 20, 30), now, 9, p)
					if state == 2 && until == 0 {
						continue
					}
					wantHouse(t, h)
					want := impl.Standing{State: state, Cabin: 1, Place: 1 - state, Asked: asked}
					if now < 12 {
						want.Level = 1
					}
					if until > now {
						want.Left = until - now
					}
					wantStanding(t, h, 7, want)
				}
			}
		}
	}
}

// TestAskLevel has each tier at each number of ticks.
func TestAskLevel(t *testing.T) {
	for _, period := range []int{1, 2, 5, 12} {
		r := withSeats(greatestRules(), 20, 30)
		r.Period = period
		for tier := range 5 {
			for waited := range 62 {
				p := impl.Party{Id: 7, Cabin: 1, From: -1, Size: 2, Tier: tier, Since: 4, Turn: 1, State: 1}
				h := houseMade(r, 4+waited, 9, p)
				wantStanding(t, h, 7, impl.Standing{State: 1, Cabin: 1, Level: max(tier-waited/period, 0)})
				p.State, p.Until = 2, 5
				h = houseMade(r, 4+waited, 9, p)
				wantStanding(t, h, 7, impl.Standing{State: 2, Cabin: 1, Level: max(tier-waited/period, 0), Place: -1, Left: max(1-waited, 0)})
			}
		}
	}
}

// TestAskPlace has rows in every order, and a second cabin with the same places.
func TestAskPlace(t *testing.T) {
	for n := 1; n <= 4; n++ {
		for _, places := range ordersOf(n) {
			h := rowOf(places, -1, 2)
			for i, p := range slices.Clone(h.Parties[:n]) {
				p.Id, p.Cabin, p.Turn, p.From = 500+i, 2, p.Turn+100, -1
				p.Since = 9
				h.Parties = append(h.Parties, p)
			}
			h.Turn = 200
			h = remade(h, h.Parties...)
			wantHouse(t, h)
			for i, place := range places {
				s, other := wantAsk(t, h, 10*(i+1)), wantAsk(t, h, 500+i)
				if s.Place != place || s.Cabin != 1 || s.Left != i%2 || s.Asked != i%2 {
					t.Errorf("the party with the place %d has %+v", place, s)
				}
				if other.Place != place || other.Cabin != 2 || other.Left != i%2 {
					t.Errorf("the party with the place %d in the other cabin has %+v", place, other)
				}
			}
			wantStanding(t, h, 50, impl.Standing{State: 2, Cabin: 0, Level: 2, Place: -1, Left: 2})
		}
	}
}

func TestAskInManyHouses(t *testing.T) {
	found := map[string]int{}
	for seed := range 400 {
		h := anyHouse(mixer(seed))
		for _, p := range h.Parties {
			s := wantAsk(t, h, p.Id)
			wantNoStanding(t, brokenHouse(h), p.Id)
			switch {
			case s.State == 2 && s.Left == 0:
				found["late"]++
			case s.State == 2:
				found["offered"]++
			case s.Left > 0:
				found["resting"]++
			case s.Place > 0:
				found["behind"]++
			default:
				found["first"]++
			}
			if s.Level < p.Tier {
				found["improved"]++
			}
		}
		for _, id := range append(extremes(), -1, 0, 1, 500, 999, 1000) {
			wantAsk(t, h, id)
		}
	}
	for _, name := range []string{"late", "offered", "resting", "behind", "first", "improved"} {
		if found[name] < 80 {
			t.Errorf("the parties are %v", found)
		}
	}
	for _, h := range badHouses() {
		for _, p := range append(cabinParties(), h.Parties...) {
			wantNoStanding(t, h, p.Id)
		}
	}
}

// wantTold compares the standings before and after one request.
func wantTold(t *testing.T, h, got impl.House, q impl.Req, reply impl.Reply) {
	t.Helper()
	for _, p := range h.Parties {
		was, is := wantAsk(t, h, p.Id), wantAsk(t, got, p.Id)
		if reply.Code != 0 && is != was {
			t.Errorf("%+v is rejected and turns %+v into %+v", q, was, is)
		}
		if reply.Code == 0 && q.Kind == 6 && (is.Left != max(was.Left-1, 0) || is.State != was.State || is.Asked != was.Asked) {
			t.Errorf("a tick turns %+v into %+v", was, is)
		}
	}
	if reply.Code != 0 {
		return
	}
	s := wantAsk(t, got, q.Id)
	switch q.Kind {
	case 1:
		if s.State != 1 || s.Cabin != q.Cabin || s.Level != q.Tier || s.Left != 0 || s.Asked != 0 {
			t.Errorf("after %+v, the party has %+v", q, s)
		}
	case 2, 4:
		wantNoStanding(t, got, q.Id)
	case 5:
		was := wantAsk(t, h, q.Id)
		if was.Asked+1 == h.Rules.Tries {
			wantNoStanding(t, got, q.Id)
		} else if s.State != 1 || s.Left != h.Rules.Rest || s.Asked != was.Asked+1 || s.Level != was.Level {
			t.Errorf("after %+v, the party has %+v", q, s)
		}
	}
	for _, id := range reply.Ids {
		if s := wantAsk(t, got, id); s.State != 2 || s.Place != -1 || s.Left != h.Rules.Window || s.Cabin != h.Jobs[q.Id] {
			t.Errorf("after %+v, party %d has %+v", q, id, s)
		}
	}
}

// TestAskAfterEachReply has the standings after each front part of a list.
func TestAskAfterEachReply(t *testing.T) {
	done, offers := map[int]int{}, 0
	for seed := range 150 {
		next := mixer(seed)
		first := anyHouse(next)
		list := requestsFrom(next, first, 20)
		before := first
		for at, q := range list {
			h, replies := impl.DoAll(first, list[:at+1])
			wantTold(t, before, h, q, replies[at])
			if replies[at].Code == 0 {
				done[q.Kind]++
			}
			offers += len(replies[at].Ids)
			before = h
		}
	}
	for kind := 1; kind <= 7; kind++ {
		if done[kind] < 15 || offers < 60 {
			t.Errorf("%v requests are performed, and %d offers made", done, offers)
		}
	}
}

func TestSameReply(t *testing.T) {
	most, least := math.MaxInt, math.MinInt
	list := []impl.Reply{
		{}, {Code: 1}, {Code: -1}, {Code: 17}, {Code: most}, {Code: least}, {Code: 1 << 32}, {Code: 1<<32 + 1},
		{Ids: []int{0}}, {Ids: []int{0, 0}}, {Ids: []int{1}}, {Ids: []int{-1}}, {Ids: []int{most}}, {Ids: []int{least}}, {Ids: []int{1<<32 + 1}},
		{Ids: []int{1, 2}}, {Ids: []int{2, 1}}, {Ids: []int{1, 2, 3}}, {Ids: []int{1, 2, 4}}, {Ids: []int{0, 2, 3}}, {Ids: []int{1, 3, 2}}, {Ids: []int{3, 1, 2}}, {Ids: []int{1, 2, 3, 0}}, {Ids: []int{2, 3}},
		{Code: 1, Ids: []int{1, 2, 3}}, {Code: -1, Ids: []int{1, 2, 3}}, {Code: most, Ids: []int{least, most}}, {Code: least, Ids: []int{least, most}}, {Code: most, Ids: []int{most, least}},
		{Code: 1, Ids: []int{1, 1}}, {Code: 1, Ids: []int{1, 1, 1}}, {Code: 1, Ids: []int{1}},
	}
	for i, a := range list {
		for j, b := range list {
			room, _ := roomyNums(b.Ids)
			wantSameReply(t, a, impl.Reply{Code: b.Code, Ids: room}, i == j)
			wantSameReply(t, a, impl.Reply{Code: b.Code, Ids: slices.Clone(b.Ids)}, i == j)
		}
	}
	wantSameReply(t, impl.Reply{Code: 3}, impl.Reply{Code: 3, Ids: []int{}}, true)
	wantSameReply(t, impl.Reply{}, impl.Reply{Ids: []int{1, 2}[:0]}, true)
	wantSameReply(t, impl.Reply{}, impl.Reply{Ids: []int{0}}, false)
	long := impl.Reply{Ids: slices.Repeat([]int{4, 5}, 500)}
	for at := range long.Ids {
		other := impl.Reply{Ids: slices.Clone(long.Ids)}
		wantSameReply(t, long, other, true)
		other.Ids[at]++
		wantSameReply(t, long, other, false)
		other.Ids = long.Ids[:at]
		wantSameReply(t, long, other, false)
	}
}

func TestCodes(t *testing.T) {
	wantCodesOf(t, nil)
	wantCodesOf(t, []impl.Reply{})
	wantCodesOf(t, []impl.Reply{{}}, 0)
	wantCodesOf(t, []impl.Reply{{Code: 17, Ids: []int{4, 5}}}, 17)
	for _, order := range ordersOf(5) {
		nums := []int{math.MinInt, math.MaxInt, -3, 0, 17}
		var list, other []impl.Reply
		var want []int
		for i, place := range order {
			want = append(want, nums[place])
			list = append(list, impl.Reply{Code: nums[place], Ids: []int{9, 8, 7}[:i%4]})
			other = append(other, impl.Reply{Code: nums[place]})
		}
		wantCodesOf(t, list, want...)
		wantCodesOf(t, other, want...)
	}
	wantCodesOf(t, slices.Repeat([]impl.Reply{{Code: 2}, {Code: 2, Ids: []int{1}}}, 300), slices.Repeat([]int{2}, 600)...)
	_, replies := impl.DoAll(needHouse(), []impl.Req{tickReq(), {}, pickReq(0), pickReq(0), pickReq(9)})
	wantCodesOf(t, replies, 0, 2, 0, 0, 16)
}

// roomyReqs is a copy with unused capacity in which requests stand; the second
// result is all of it.
func roomyReqs(list []impl.Req) ([]impl.Req, []impl.Req) {
	all := slices.Concat(list, []impl.Req{tickReq(), pickReq(0), freeReq(0, 1)})
	return all[:len(list)], all
}

// wantOwnReplies expects that no two lists of the replies share memory, and that
// none shares it with states.
func wantOwnReplies(t *testing.T, replies []impl.Reply, others ...impl.House) {
	t.Helper()
	seen := map[*int]bool{}
	for _, reply := range replies[:cap(replies)] {
		wantOwnNums(t, reply.Ids, others...)
		for at := range reply.Ids[:cap(reply.Ids)] {
			cell := &reply.Ids[:cap(reply.Ids)][at]
			if seen[cell] {
				t.Errorf("two replies of %+v share memory", replies)
				return
			}
			seen[cell] = true
		}
	}
}

// keptRequests have several scans among them, so that several replies have Ids.
func keptRequests(h impl.House) []impl.Req {
	list := []impl.Req{pickReq(0), pickReq(0), tickReq(), freeReq(0, 1), joinReq(500, 0, -1, 1, 0), pickReq(0), pickReq(0), joinReq(501, 1, 0, 1, 1), freeReq(1, 2), pickReq(1), pickReq(1), {}, pickReq(9999)}
	for _, p := range h.Parties {
		list = append(list, declineReq(p.Id), acceptReq(p.Id), cancelReq(p.Id), pickReq(0))
	}
	return append(list, joinReq(502, 0, -1, 1, 0), tickReq(), pickReq(0), pickReq(0))
}

// TestDoArgumentsAreKept covers the unused capacity of every slice, and the
// memory of the results.
func TestDoArgumentsAreKept(t *testing.T) {
	changed, same, several := 0, 0, 0
	for _, h := range keptHouses() {
		room := roomyHouse(h)
		was := memoryOf(room)
		list := keptRequests(h)
		if !impl.HouseOk(h) {
			list = list[:5]
		}
		requests, all := roomyReqs(list)
		kept := slices.Clone(all)
		for _, q := range requests {
			got, reply := impl.Do(room, q)
			want, wantReply := impl.Do(h, q)
			if !houseEqual(got, want) || !replyEqual(reply, wantReply) {
				t.Errorf("the capacity of %+v is read: %+v, %+v, want %+v, %+v", room, got, reply, want, wantReply)
			}
			wantOwnMemory(t, got, room)
			wantOwnReplies(t, []impl.Reply{reply}, room, got)
			if houseEqual(got, h) {
				same++
			} else {
				changed++
			}
		}
		for _, n := range []int{0, 1, len(requests) / 2, len(requests)} {
			got, replies := impl.DoAll(room, requests[:n])
			want, wantReplies := impl.DoAll(h, kept[:n])
			if !houseEqual(got, want) || !slices.EqualFunc(replies, wantReplies, replyEqual) {
				t.Errorf("the capacity of %+v is read: %+v, %+v, want %+v, %+v", room, got, replies, want, wantReplies)
			}
			wantOwnMemory(t, got, room)
			wantOwnReplies(t, replies, room, got)
			offers := 0
			for _, reply := range replies {
				offers += min(len(reply.Ids), 1)
			}
			if offers > 1 {
				several++
			}
		}
		for id := -1; id < 20; id++ {
			s, ok := impl.Ask(room, id)
			if other, otherOk := impl.Ask(h, id); s != other || ok != otherOk {
				t.Errorf("the capacity of %+v is read: %+v, %v, want %+v, %v", room, s, ok, other, otherOk)
			}
		}
		if now := memoryOf(room); !reflect.DeepEqual(now, was) || !slices.Equal(all, kept) {
			t.Fatalf("the state %+v became %+v, and the requests %+v became %+v", was, now, kept, all)
		}
	}
	if changed < 300 || same < 600 || several < 15 {
		t.Errorf("%d results are changed and %d are not, and %d have several scans", changed, same, several)
	}
}

// TestRepliesAreKept has the lists in the replies with unused capacity.
func TestRepliesAreKept(t *testing.T) {
	one, all := roomyNums([]int{4, 5, 6})
	two, other := roomyNums([]int{4, 5, 6})
	was, otherWas := slices.Clone(all), slices.Clone(other)
	list := []impl.Reply{{Code: 2, Ids: one}, {Code: 3, Ids: two}, {Code: 4, Ids: one[:1]}}
	for _, a := range list {
		for _, b := range list {
			impl.SameReply(a, b)
		}
	}
	wantSameReply(t, list[0], impl.Reply{Code: 2, Ids: two}, true)
	wantSameReply(t, list[0], impl.Reply{Code: 2, Ids: two[:2]}, false)
	wantCodesOf(t, list[:2], 2, 3)
	wantCodesOf(t, list[:1], 2)
	codes, again := impl.Codes(list), impl.Codes(list)
	spoilNums(codes)
	if !slices.Equal(again, []int{2, 3, 4}) || list[0].Code != 2 || list[1].Code != 3 || list[2].Code != 4 || len(list[2].Ids) != 1 {
		t.Errorf("Codes shares memory: %v, %+v", again, list)
	}
	if !slices.Equal(all, was) || !slices.Equal(other, otherWas) {
		t.Errorf("the Ids %v and %v became %v and %v", was, otherWas, all, other)
	}
}

// TestDoResultsCanBeChanged writes to the results, which changes neither the
// arguments nor the result of another call.
func TestDoResultsCanBeChanged(t *testing.T) {
	for _, h := range []impl.House{handHouse(), withTodo(needHouse(), 1, 2), brokenHouse(needHouse()), chainHouse(2), newHouse(plainRules()), withJobs(lateRow(0, 2, 3), 1), withJobs(fitRow(9, 4, 4, 1), 1), offersHouse([]int{-1}, 7, 6, 1)} {
		kept := emptied(h)
		kept.Rules.Seats = slices.Clone(h.Rules.Seats)
		list := keptRequests(h)
		requests := slices.Clone(list)
		for n := range len(list) + 1 {
			one, replies := impl.DoAll(h, list[:n])
			two, others := impl.DoAll(h, list[:n])
			for _, spoil := range houseParts(one) {
				spoil()
			}
			for _, reply := range replies {
				spoilNums(reply.Ids)
			}
			again, repliesAgain := impl.DoAll(h, list[:n])
			if !houseEqual(two, again) || !slices.EqualFunc(others, repliesAgain, replyEqual) {
				t.Errorf("DoAll of %+v in %+v: the results share memory", list[:n], h)
			}
			if n == len(list) {
				continue
			}
			step, reply := impl.Do(h, list[n])
			for _, spoil := range houseParts(step) {
				spoil()
			}
			spoilNums(reply.Ids)
		}
		if !houseEqual(h, kept) || !slices.Equal(list, requests) {
			t.Errorf("%+v became %+v, and %+v became %+v", kept, h, requests, list)
		}
	}
}

// TestDoOfSharedLists has an argument whose lists share memory.
func TestDoOfSharedLists(t *testing.T) {
	h := sharingHouse()
	for _, q := range append(keptRequests(h), pickReq(1), tickReq()) {
		got, reply := wantDo(t, h, q)
		wantOwnMemory(t, got, h)
		wantOwnReplies(t, []impl.Reply{reply}, h, got)
		again, replies := wantDoAll(t, h, q, freeReq(2, 1), joinReq(8, 2, 1, 1, 1), pickReq(0), pickReq(1), pickReq(1))
		wantOwnMemory(t, again, h)
		wantOwnReplies(t, replies, h, again)
	}
	wantHouse(t, h)
}

// TestDoNeverPanics has fields that are no index of anything.
func TestDoNeverPanics(t *testing.T) {
	edges := append(extremes(), -2, -1, 0, 1, 2, 3, 4, 999, 1000, 9999, 10000, 1000000, 1000001)
	for _, h := range append(append(badHouses()[:30], someHouses()[:8]...), impl.House{}, needHouse(), newHouse(leastRules())) {
		for _, n := range edges {
			for kind := range 9 {
				for _, f := range reqFields() {
					wantDo(t, h, withReqField(impl.Req{Kind: kind}, f, n))
				}
				wantDo(t, h, impl.Req{Kind: kind, Id: n, Cabin: n, From: n, Size: n, Tier: n})
			}
			wantDo(t, h, impl.Req{Kind: n})
			impl.Ask(h, n)
			other := h
			other.Now, other.Turn = n, n
			impl.Ask(other, 1)
			impl.DoAll(other, []impl.Req{tickReq(), pickReq(0)})
		}
	}
}

func TestDoLeavesNoGoroutine(t *testing.T) {
	before := runtime.NumGoroutine()
	for _, h := range append(someHouses(), badHouses()[:20]...) {
		for range 5 {
			impl.DoAll(h, keptRequests(h))
			impl.Ask(h, 1)
		}
		if after := runtime.NumGoroutine(); after > before {
			t.Fatalf("%d goroutines before the calls, and %d after them", before, after)
		}
	}
}
