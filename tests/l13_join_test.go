package tests

import (
	"math"
	"reflect"
	"slices"
	"testing"

	"loop.example/g00494/impl"
)

// todoWith is the document's TodoPut, written out.
func todoWith(list []int, cabin int) []int {
	for _, other := range list {
		if other == cabin {
			return list
		}
	}
	return append(slices.Clone(list), cabin)
}

// counted adds to the counts of one cabin, and to none if cabin is -1.
func counted(h impl.House, cabin, free, held, sold, tied int) impl.House {
	if cabin == -1 {
		return h
	}
	c := h.Cabins[cabin]
	l := c.Seats
	return withCabin(h, cabin, withLedger(c, ledger(l.Total, l.Free+free, l.Held+held, l.Sold+sold, l.Tied+tied)))
}

// joined is the state after a RqJoin that can be performed, written out. A party
// that has not waited has the level of its tier, and no Turn is greater.
func joined(h impl.House, q impl.Req) impl.House {
	p := impl.Party{Id: q.Id, Cabin: q.Cabin, From: q.From, Size: q.Size, Tier: q.Tier, Since: h.Now, Turn: h.Turn, State: 1}
	c := h.Cabins[q.Cabin]
	at := len(c.Row)
	for at > 0 && c.Row[at-1].Level > q.Tier {
		at--
	}
	h.Parties = putInto(h.Parties, p)
	h = withCabin(h, q.Cabin, withRow(c, slices.Insert(slices.Clone(c.Row), at, impl.Entry{Level: q.Tier, Turn: h.Turn, Id: q.Id, Size: q.Size})...))
	h = counted(h, q.From, 0, 0, 0, q.Size)
	h.Todo = todoWith(h.Todo, q.Cabin)
	h.Turn++
	return h
}

func withoutEntry(row []impl.Entry, id int) []impl.Entry {
	var out []impl.Entry
	for _, e := range row {
		if e.Id != id {
			out = append(out, e)
		}
	}
	return out
}

func withoutPin(w impl.Wheel, p impl.Pin) impl.Wheel {
	var out impl.Wheel
	for _, list := range w.Spoke {
		var left []impl.Pin
		for _, other := range list {
			if other != p {
				left = append(left, other)
			}
		}
		out.Spoke = append(out.Spoke, left)
	}
	return out
}

// cancelled is the state after a RqCancel that can be performed, written out.
func cancelled(h impl.House, id int) impl.House {
	p := h.Parties[placeFound(h.Parties, id)]
	c := h.Cabins[p.Cabin]
	h.Parties = cutFrom(h.Parties, id)
	if p.State == 1 {
		h = withCabin(h, p.Cabin, withRow(c, withoutEntry(c.Row, id)...))
	} else {
		c.Wheel = withoutPin(c.Wheel, pin(p.Until, id))
		h = counted(withCabin(h, p.Cabin, c), p.Cabin, p.Size, -p.Size, 0, 0)
		h.Todo = todoWith(h.Todo, p.Cabin)
	}
	return counted(h, p.From, 0, 0, 0, -p.Size)
}

func joinOf(h impl.House, q impl.Req) (impl.House, int) {
	return impl.Join(h, q.Id, q.Cabin, q.From, q.Size, q.Tier)
}

// firstReason is the code that the document's Verdict has.
func firstReason(h impl.House, q impl.Req) int {
	if found := reasonsOf(h, q); len(found) > 0 {
		return found[0]
	}
	return 0
}

func wantStep(t *testing.T, what string, h impl.House, q impl.Req, got impl.House, code int, want impl.House, wantCode int) {
	t.Helper()
	if code != wantCode || !houseEqual(got, want) {
		t.Errorf("%s of %+v in %+v = %+v, %d, want %+v, %d", what, q, h, got, code, want, wantCode)
	}
}

// wantJoin returns the state after the request, which is the one before if the
// request is rejected.
func wantJoin(t *testing.T, h impl.House, q impl.Req) impl.House {
	t.Helper()
	want, wantCode := h, firstReason(h, q)
	if wantCode == 0 {
		want = joined(h, q)
		wantHouse(t, want)
	}
	got, code := joinOf(h, q)
	wantStep(t, "Join", h, q, got, code, want, wantCode)
	return got
}

func wantNoJoin(t *testing.T, h impl.House, q impl.Req, reason int) {
	t.Helper()
	got, code := joinOf(h, q)
	wantStep(t, "Join", h, q, got, code, h, reason)
	if verdict := impl.Verdict(h, q); verdict != reason {
		t.Errorf("Verdict(%+v, %+v) = %d, the test means %d", h, q, verdict, reason)
	}
}

func wantCancel(t *testing.T, h impl.House, id int) impl.House {
	t.Helper()
	q := cancelReq(id)
	want, wantCode := h, firstReason(h, q)
	if wantCode == 0 {
		want = cancelled(h, id)
		wantHouse(t, want)
	}
	got, code := impl.Cancel(h, id)
	wantStep(t, "Cancel", h, q, got, code, want, wantCode)
	return got
}

func wantNoCancel(t *testing.T, h impl.House, id int, reason int) {
	t.Helper()
	got, code := impl.Cancel(h, id)
	wantStep(t, "Cancel", h, cancelReq(id), got, code, h, reason)
	if verdict := impl.Verdict(h, cancelReq(id)); verdict != reason {
		t.Errorf("Verdict(%+v, cancel %d) = %d, the test means %d", h, id, verdict, reason)
	}
}

func wantPlace(t *testing.T, h impl.House, id, want int) {
	t.Helper()
	if got := impl.PlaceOf(h, id); got != want {
		t.Errorf("PlaceOf(%+v, %d) = %d, want %d", h, id, got, want)
	}
}

func wantLoose(t *testing.T, h impl.House, cabin, want int) {
	t.Helper()
	if got := impl.LooseIn(h, cabin); got != want {
		t.Errorf("LooseIn(%+v, %d) = %d, want %d", h, cabin, got, want)
	}
}

// TestJoinByHand has the numbers of one Join written down.
func TestJoinByHand(t *testing.T) {
	h := handHouse()
	got, code := impl.Join(h, 50, 1, 2, 3, 1)
	want := handHouse()
	want.Turn = 11
	want.Parties = append(want.Parties, impl.Party{Id: 50, Cabin: 1, From: 2, Size: 3, Tier: 1, Since: 7, Turn: 10, State: 1})
	want.Cabins[1].Row = []impl.Entry{{Level: 1, Turn: 4, Id: 4, Size: 2}, {Level: 1, Turn: 5, Id: 6, Size: 1}, {Level: 1, Turn: 10, Id: 50, Size: 3}}
	want.Cabins[2].Seats = ledger(40, 1, 0, 39, 6)
	want.Todo = []int{2, 0, 1}
	wantStep(t, "Join", h, joinReq(50, 1, 2, 3, 1), got, code, want, 0)
	wantHouse(t, got)

	got, code = impl.Join(h, 50, 0, -1, 1, 0)
	want = handHouse()
	want.Turn = 11
	want.Parties = append(want.Parties, impl.Party{Id: 50, Cabin: 0, From: -1, Size: 1, Tier: 0, Since: 7, Turn: 10, State: 1})
	want.Cabins[0].Row = []impl.Entry{{Level: 0, Turn: 10, Id: 50, Size: 1}, {Level: 1, Turn: 3, Id: 5, Size: 2}, {Level: 2, Turn: 8, Id: 1, Size: 4}}
	wantStep(t, "Join", h, joinReq(50, 0, -1, 1, 0), got, code, want, 0)
	wantHouse(t, got)
}

// TestCancelByHand has the numbers of a party that waits and of one that is
// offered written down.
func TestCancelByHand(t *testing.T) {
	h := handHouse()
	got, code := impl.Cancel(h, 5)
	want := handHouse()
	want.Parties = slices.Delete(want.Parties, 4, 5)
	want.Cabins[0].Row = []impl.Entry{{Level: 2, Turn: 8, Id: 1, Size: 4}}
	want.Cabins[2].Seats = ledger(40, 1, 0, 39, 1)
	wantStep(t, "Cancel", h, cancelReq(5), got, code, want, 0)
	wantHouse(t, got)

	got, code = impl.Cancel(h, 2)
	want = handHouse()
	want.Parties = slices.Delete(want.Parties, 1, 2)
	want.Cabins[0].Seats = ledger(20, 5, 3, 12, 1)
	want.Cabins[1].Seats = ledger(30, 3, 5, 22, 1)
	want.Cabins[1].Wheel = wheel(pin(8, 7), pin(8, 9))
	want.Todo = []int{2, 0, 1}
	wantStep(t, "Cancel", h, cancelReq(2), got, code, want, 0)
	wantHouse(t, got)
}

// randomJoin is a request that a valid state often can perform.
func randomJoin(next func(int) int, h impl.House) impl.Req {
	q := joinReq(1+next(999), next(len(h.Cabins)), next(len(h.Cabins)+1)-1, 1+next(h.Rules.Size), next(h.Rules.Tiers))
	if q.From == q.Cabin {
		q.From = -1
	}
	return q
}

// wantNoTrace tells whether the Join can be performed.
func wantNoTrace(t *testing.T, h impl.House, q impl.Req) bool {
	t.Helper()
	between, code := joinOf(h, q)
	if code != 0 {
		return false
	}
	want := h
	want.Turn = h.Turn + 1
	want.Todo = todoWith(h.Todo, q.Cabin)
	got, code := impl.Cancel(between, q.Id)
	if code != 0 || !houseEqual(got, want) {
		t.Errorf("Join of %+v and Cancel turn %+v into %+v, %d, want %+v, 0", q, h, got, code, want)
	}
	wantHouse(t, got)
	if kept := impl.TodoPut(h.Todo, q.Cabin); !slices.Equal(got.Todo, kept) {
		t.Errorf("Todo is %v, want %v", got.Todo, kept)
	}
	return true
}

// TestJoinAndCancelLeaveNoTrace is P13. It also counts the kinds of the states.
func TestJoinAndCancelLeaveNoTrace(t *testing.T) {
	seen := map[string]int{}
	count := func(name string, holds bool) {
		if holds {
			seen[name]++
		} else {
			seen["not "+name]++
		}
	}
	for seed := range 1200 {
		next := mixer(seed)
		h := randomHouse(next)
		if seed%3 == 0 {
			h = tightHouse(next)
		}
		for range 8 {
			q := randomJoin(next, h)
			wantJoin(t, h, q)
			if !wantNoTrace(t, h, q) {
				continue
			}
			count("waiting", slices.ContainsFunc(h.Parties, func(p impl.Party) bool { return p.Cabin == q.Cabin && p.State == 1 }))
			count("resting", slices.ContainsFunc(h.Parties, func(p impl.Party) bool { return p.State == 1 && p.Until > h.Now }))
			count("offered", slices.ContainsFunc(h.Parties, func(p impl.Party) bool { return p.Cabin == q.Cabin && p.State == 2 }))
			count("late", slices.ContainsFunc(h.Parties, func(p impl.Party) bool { return p.State == 2 && p.Until <= h.Now }))
			count("tied", q.From >= 0 && h.Cabins[q.From].Seats.Tied > 0)
			count("from", q.From >= 0)
			count("to do", slices.Contains(h.Todo, q.Cabin))
			count("cabins", len(h.Cabins) > 1)
			count("tiers", h.Rules.Tiers > 1)
			count("crowded", len(h.Parties) > 4)
		}
	}
	for _, name := range []string{"waiting", "resting", "offered", "late", "tied", "from", "to do", "cabins", "tiers", "crowded"} {
		if seen[name] < 300 || seen["not "+name] < 300 {
			t.Errorf("%d states are %q, and %d are not", seen[name], name, seen["not "+name])
		}
	}
}

// TestNoTraceInHouses joins each cabin from each other one, at each tier.
func TestNoTraceInHouses(t *testing.T) {
	done := 0
	for _, h := range someHouses() {
		for cabin := range h.Cabins {
			for from := -1; from < len(h.Cabins); from++ {
				for tier := range h.Rules.Tiers {
					for _, id := range []int{1, 2, 77, 500, 999} {
						for _, size := range []int{1, h.Rules.Size} {
							q := joinReq(id, cabin, from, size, tier)
							wantJoin(t, h, q)
							if wantNoTrace(t, h, q) {
								done++
							}
						}
					}
				}
			}
		}
	}
	if done < 2000 {
		t.Errorf("only %d requests are performed", done)
	}
}

// TestJoinsAndCancelsInAnyOrder runs histories: every state is the one that is
// written out, and when all parties have gone, the first one is back.
func TestJoinsAndCancelsInAnyOrder(t *testing.T) {
	most := 0
	for seed := range 60 {
		next := mixer(seed)
		first, _ := impl.HouseNew(randomRules(next))
		h := first
		for range 60 {
			if len(h.Parties) > 0 && next(3) == 0 {
				h = wantCancel(t, h, h.Parties[next(len(h.Parties))].Id)
			} else {
				h = wantJoin(t, h, randomJoin(next, h))
			}
			most = max(most, len(h.Parties))
		}
		for len(h.Parties) > 0 {
			h = wantCancel(t, h, h.Parties[next(len(h.Parties))].Id)
		}
		first.Turn, first.Todo = h.Turn, h.Todo
		if !houseEqual(h, first) {
			t.Errorf("without parties, %+v became %+v", first, h)
		}
	}
	if most < 20 {
		t.Errorf("no state has more than %d parties", most)
	}
}

// wantAhead checks where an entry stands: behind those of its level or a better
// one, ahead of the worse ones.
func wantAhead(t *testing.T, h impl.House, q impl.Req) {
	t.Helper()
	got, code := joinOf(h, q)
	row := h.Cabins[q.Cabin].Row
	want := 0
	for _, e := range row {
		if e.Level <= q.Tier {
			want++
		}
	}
	e := impl.Entry{Level: q.Tier, Turn: h.Turn, Id: q.Id, Size: q.Size}
	if after := got.Cabins[q.Cabin].Row; code != 0 || len(after) != len(row)+1 || after[want] != e {
		t.Errorf("Join of %+v turns the row %+v into %+v, %d, want %+v at %d", q, row, after, code, e, want)
		return
	}
	for at, other := range got.Cabins[q.Cabin].Row {
		if at < want && !impl.EntryLess(other, e) || at > want && !impl.EntryLess(e, other) {
			t.Errorf("Join of %+v: %+v is at %d", q, other, at)
		}
	}
	wantPlace(t, got, q.Id, want)
}

// TestJoinPlaces has rows with entries of all levels, of their tiers and by
// waiting, and joins at each tier.
func TestJoinPlaces(t *testing.T) {
	r := withSeats(greatestRules(), 60, 60)
	r.Period = 2
	for seed := range 300 {
		next := mixer(seed)
		var list []impl.Party
		since, n := 0, next(10)
		for i := range n {
			since += next(2)
			list = append(list, impl.Party{Id: 10 * (i + 1), Cabin: 1, From: next(2) - 1, Size: 1, Tier: next(5), Since: since, Turn: 1 + 2*i, State: 1})
		}
		now := since + next(4)
		h := houseMade(r, now, 40, list...)
		wantHouse(t, h)
		for tier := range 5 {
			for _, id := range []int{1, 15, 500} {
				wantAhead(t, h, joinReq(id, 1, -1, 2, tier))
				wantJoin(t, h, joinReq(id, 1, 0, 2, tier))
			}
		}
	}
}

// TestJoinPlacesWithinALevel has entries of one level alone, of better ones
// alone and of worse ones alone.
func TestJoinPlacesWithinALevel(t *testing.T) {
	r := withSeats(greatestRules(), 60)
	for tier := range 5 {
		for n := range 10 {
			var list []impl.Party
			for i := range n {
				list = append(list, impl.Party{Id: 3 + 2*i, From: -1, Size: 1, Tier: tier, Turn: 1 + i, State: 1})
			}
			h := houseMade(r, 0, 11, list...)
			for other := range 5 {
				got := wantJoin(t, h, joinReq(8, 0, -1, 1, other))
				if other < tier {
					wantPlace(t, got, 8, 0)
				} else {
					wantPlace(t, got, 8, n)
				}
			}
		}
	}
}

// TestJoinParty has the fields of the party that is added.
func TestJoinParty(t *testing.T) {
	for _, h := range someHouses() {
		for cabin := range h.Cabins {
			for from := -1; from < len(h.Cabins); from++ {
				for _, id := range []int{1, 2, 8, 400, 999} {
					q := joinReq(id, cabin, from, 1, h.Rules.Tiers-1)
					got, code := joinOf(h, q)
					if code != 0 {
						continue
					}
					p := got.Parties[impl.PartyAt(got, id)]
					want := impl.Party{Id: id, Cabin: cabin, From: from, Size: 1, Tier: h.Rules.Tiers - 1, Since: h.Now, Turn: h.Turn, State: 1}
					if p != want || got.Turn != h.Turn+1 || got.Now != h.Now || !slices.Equal(got.Jobs, h.Jobs) || !rulesEqual(got.Rules, h.Rules) {
						t.Errorf("Join of %+v gives %+v in %+v, want %+v", q, p, got, want)
					}
					if !slices.Equal(cutFrom(got.Parties, id), h.Parties) {
						t.Errorf("Join of %+v turns the parties %+v into %+v", q, h.Parties, got.Parties)
					}
					wantOtherCabins(t, h, got, q)
				}
			}
		}
	}
}

// wantOtherCabins looks at what a Join must leave of the cabins: all but one row
// and one number.
func wantOtherCabins(t *testing.T, h, got impl.House, q impl.Req) {
	t.Helper()
	for at, c := range got.Cabins {
		l := h.Cabins[at].Seats
		if at == q.From {
			l.Tied += q.Size
		}
		if c.Seats != l || !wheelEqual(c.Wheel, h.Cabins[at].Wheel) {
			t.Errorf("Join of %+v turns cabin %d from %+v into %+v", q, at, h.Cabins[at], c)
		}
		if at != q.Cabin && !slices.Equal(c.Row, h.Cabins[at].Row) {
			t.Errorf("Join of %+v turns the row of cabin %d from %+v into %+v", q, at, h.Cabins[at].Row, c.Row)
		}
	}
}

// todosOf are all the lists of some of n cabins, in all orders.
func todosOf(n int) [][]int {
	list := [][]int{nil}
	for _, order := range ordersOf(n) {
		for size := 1; size <= n; size++ {
			list = append(list, order[:size])
		}
	}
	return list
}

// TestTodoAfterJoin has the cabin first, in the middle, last and not there.
func TestTodoAfterJoin(t *testing.T) {
	h := newHouse(withSeats(greatestRules(), 20, 30, 40, 50))
	for _, todo := range todosOf(4) {
		h.Todo = todo
		for cabin := range 4 {
			got, code := impl.Join(h, 7, cabin, -1, 2, 1)
			want := slices.Clone(todo)
			if !slices.Contains(todo, cabin) {
				want = append(want, cabin)
			}
			if code != 0 || !slices.Equal(got.Todo, want) {
				t.Errorf("Join of cabin %d turns Todo from %v into %v, %d, want %v", cabin, todo, got.Todo, code, want)
			}
			wantNoTrace(t, h, joinReq(7, cabin, (cabin+1)%4, 2, 1))
		}
	}
}

// TestJoinRejected has each reason, alone and beside later ones.
func TestJoinRejected(t *testing.T) {
	h := needHouse()
	full := atTurn(h, 1000001)
	for _, c := range []struct {
		h      impl.House
		q      impl.Req
		reason int
	}{
		{brokenHouse(h), joinReq(10, 0, -1, 1, 0), 1},
		{brokenHouse(h), joinReq(2, 1, 5, 9, 9), 1},
		{impl.House{}, joinReq(10, 0, -1, 1, 0), 1},
		{h, joinReq(-1, 0, -1, 1, 0), 3},
		{h, joinReq(10000, 0, -1, 1, 0), 3},
		{h, joinReq(10, -1, -1, 1, 0), 3},
		{h, joinReq(10, 10000, -1, 1, 0), 3},
		{h, joinReq(10, 0, -2, 1, 0), 3},
		{h, joinReq(10, 0, 10000, 1, 0), 3},
		{h, joinReq(10, 0, -1, -1, 0), 3},
		{h, joinReq(10, 0, -1, 10000, 0), 3},
		{h, joinReq(10, 0, -1, 1, -1), 3},
		{h, joinReq(10, 0, -1, 1, 10000), 3},
		{h, joinReq(10, 3, -1, 1, 0), 4},
		{h, joinReq(10, 0, 0, 1, 0), 4},
		{h, joinReq(10, 2, 2, 1, 0), 4},
		{h, joinReq(10, 0, 3, 1, 0), 4},
		{h, joinReq(2, 9999, 9999, 9999, 9999), 4},
		{h, joinReq(10, 0, -1, 0, 0), 5},
		{h, joinReq(10, 0, -1, 5, 0), 5},
		{h, joinReq(2, 1, 0, 9999, 9999), 5},
		{h, joinReq(10, 0, -1, 1, 3), 6},
		{h, joinReq(2, 1, 0, 4, 9999), 6},
		{h, joinReq(0, 0, -1, 1, 0), 7},
		{h, joinReq(1000, 0, -1, 1, 0), 7},
		{h, joinReq(9999, 1, 0, 4, 2), 7},
		{h, joinReq(1, 0, -1, 1, 0), 8},
		{h, joinReq(9, 2, -1, 1, 0), 8},
		{full, joinReq(2, 1, 0, 4, 2), 8},
		{h, joinReq(10, 1, -1, 1, 0), 9},
		{full, joinReq(10, 1, 0, 4, 2), 9},
		{h, joinReq(10, 0, 1, 1, 0), 10},
		{h, joinReq(10, 0, 2, 2, 0), 10},
		{full, joinReq(10, 2, 0, 4, 0), 10},
		{full, joinReq(10, 0, -1, 1, 0), 11},
		{full, joinReq(999, 2, 0, 3, 2), 11},
	} {
		wantNoJoin(t, c.h, c.q, c.reason)
	}
}

func TestCancelRejected(t *testing.T) {
	h := needHouse()
	for _, id := range []int{0, 10, 11, 998, 999, 1000, 9999} {
		wantNoCancel(t, h, id, 7)
		wantNoCancel(t, newHouse(plainRules()), id, 7)
		wantNoCancel(t, brokenHouse(h), id, 1)
	}
	for _, id := range append(extremes(), -2, -1, 10000, 10001, 1<<32, 1<<32+1, -1<<32+1) {
		wantNoCancel(t, h, id, 3)
		wantNoCancel(t, newHouse(plainRules()), id, 3)
		wantNoCancel(t, brokenHouse(h), id, 1)
	}
	for id := 1; id <= 9; id++ {
		wantNoCancel(t, brokenHouse(h), id, 1)
		gone := wantCancel(t, h, id)
		wantNoCancel(t, gone, id, 7)
	}
	wantNoCancel(t, impl.House{}, 1, 1)
}

// TestNothingIsDoneInBadHouses has states that are not HouseOk.
func TestNothingIsDoneInBadHouses(t *testing.T) {
	for _, h := range badHouses() {
		for _, q := range []impl.Req{joinReq(10, 0, -1, 1, 0), joinReq(1, 0, -1, 1, 0), joinReq(700, 1, 0, 2, 1), joinReq(math.MinInt, math.MaxInt, math.MinInt, math.MaxInt, math.MinInt)} {
			wantNoJoin(t, h, q, 1)
		}
		for _, id := range append(extremes(), -1, 0, 1, 2, 5, 9, 10, 999) {
			wantNoCancel(t, h, id, 1)
		}
		for _, p := range h.Parties {
			wantNoCancel(t, h, p.Id, 1)
			wantPlace(t, h, p.Id, -1)
		}
	}
}

func TestJoinLastPlace(t *testing.T) {
	for room := 1; room <= 10; room++ {
		r := cabinRules()
		r.Room = room
		for cabin := range 3 {
			for waiting := range room {
				h := houseMade(r, 0, 30, crowd(cabin, waiting, room-1)...)
				got := wantJoin(t, h, joinReq(500, cabin, -1, 2, 1))
				if countSum(got.Parties, cabin) != room {
					t.Errorf("the parties are %+v", got.Parties)
				}
				wantNoJoin(t, got, joinReq(501, cabin, -1, 2, 1), 9)
				wantJoin(t, got, joinReq(501, (cabin+1)%3, cabin, 2, 1))
				wantNoTrace(t, h, joinReq(500, cabin, (cabin+2)%3, 1, 2))
			}
		}
	}
}

func TestJoinSizesTiersAndIds(t *testing.T) {
	for _, r := range []impl.Rules{leastRules(), plainRules(), cabinRules(), mixedRules(), greatestRules()} {
		h := newHouse(r)
		for _, c := range []struct {
			q      impl.Req
			reason int
		}{
			{joinReq(1, 0, -1, 1, 0), 0},
			{joinReq(999, 0, -1, 1, 0), 0},
			{joinReq(5, 0, -1, r.Size, r.Tiers-1), 0},
			{joinReq(1, len(r.Seats)-1, -1, 1, r.Tiers-1), 0},
			{joinReq(0, 0, -1, 1, 0), 7},
			{joinReq(1000, 0, -1, 1, 0), 7},
			{joinReq(5, 0, -1, 0, 0), 5},
			{joinReq(5, 0, -1, r.Size+1, 0), 5},
			{joinReq(5, 0, -1, 1, r.Tiers), 6},
		} {
			if c.reason != 0 {
				wantNoJoin(t, h, c.q, c.reason)
			} else if got := wantJoin(t, h, c.q); len(got.Parties) != 1 {
				t.Errorf("Join of %+v gives %+v", c.q, got)
			} else {
				wantNoTrace(t, h, c.q)
			}
		}
	}
}

// TestJoinLastTurn has no Join after the one that gets the last Turn; parties
// can still be cancelled.
func TestJoinLastTurn(t *testing.T) {
	for _, h := range []impl.House{needHouse(), newHouse(plainRules()), newHouse(leastRules())} {
		for _, turn := range []int{999999, 1000000} {
			got := wantJoin(t, atTurn(h, turn), joinReq(800, 0, -1, 1, 0))
			if p := got.Parties[placeFound(got.Parties, 800)]; p.Turn != turn || got.Turn != turn+1 {
				t.Errorf("the last party is %+v in %+v", p, got)
			}
			wantNoTrace(t, atTurn(h, turn), joinReq(800, 0, -1, 1, 0))
		}
		last, _ := impl.Join(atTurn(h, 1000000), 800, 0, -1, 1, 0)
		last = wantCancel(t, last, 800)
		for id := 801; id <= 803; id++ {
			wantNoJoin(t, last, joinReq(id, 0, -1, 1, 0), 11)
			wantNoJoin(t, atTurn(h, 1000001), joinReq(id, 0, -1, 1, 0), 11)
		}
		for _, p := range h.Parties {
			wantCancel(t, last, p.Id)
		}
	}
}

// TestJoinTiesTheLastSeats has as many seats that are sold and not tied as the
// party has, one more and one less.
func TestJoinTiesTheLastSeats(t *testing.T) {
	for size := 1; size <= 4; size++ {
		for free := range 3 {
			for tied := range 3 {
				for loose := range size + 3 {
					p := impl.Party{Id: 3, Cabin: 0, From: 1, Size: tied, Turn: 1, State: 1}
					h := houseMade(cabinRules(), 0, 2)
					if tied > 0 {
						h = houseMade(cabinRules(), 0, 2, p)
					}
					h.Rules.Seats[1] = free + tied + loose
					if h.Rules.Seats[1] == 0 {
						continue
					}
					h = withCabin(h, 1, withLedger(h.Cabins[1], ledger(free+tied+loose, free, 0, tied+loose, tied)))
					wantHouse(t, h)
					q := joinReq(9, 2, 1, size, 1)
					if loose < size {
						wantNoJoin(t, h, q, 10)
						continue
					}
					got := wantJoin(t, h, q)
					if l := got.Cabins[1].Seats; l != ledger(free+tied+loose, free, 0, tied+loose, tied+size) {
						t.Errorf("Join of %+v in %+v leaves %+v", q, h, l)
					}
					wantLoose(t, got, 1, loose-size)
					wantNoTrace(t, h, q)
				}
			}
		}
	}
}

// rowOf has four parties of cabin 1 that wait, of which two rest, and one of
// cabin 0; their Ids are 10, 20, 30, 40 and 50, and their places those of places.
func rowOf(places []int, froms ...int) impl.House {
	var list []impl.Party
	for i, place := range places {
		list = append(list, impl.Party{Id: 10 * (i + 1), Cabin: 1, From: froms[i%len(froms)], Size: 1 + i%3, Tier: 1, Since: 5 + place/2, Turn: 3 + place, State: 1, Until: 10 * (i % 2), Asked: i % 2})
	}
	list = append(list, impl.Party{Id: 50, Cabin: 0, From: 1, Size: 4, Tier: 2, Since: 8, Turn: 9, State: 2, Until: 11})
	return houseMade(cabinRules(), 9, 12, list...)
}

// TestCancelWaiting has the first, the middle ones, the last and the only party
// of a row, with seats elsewhere and without, resting and not.
func TestCancelWaiting(t *testing.T) {
	resting := 0
	for n := 1; n <= 4; n++ {
		for _, places := range ordersOf(n) {
			for _, froms := range [][]int{{-1}, {0}, {2}, {-1, 2}, {0, -1, 2}} {
				h := rowOf(places, froms...)
				wantHouse(t, h)
				for _, todo := range [][]int{nil, {1}, {0, 1, 2}, {2, 0}} {
					h.Todo = todo
					for i, place := range places {
						id := 10 * (i + 1)
						wantPlace(t, h, id, place)
						got := wantCancel(t, h, id)
						p := h.Parties[i]
						if p.Until > h.Now {
							resting++
						}
						if row := slices.Delete(slices.Clone(h.Cabins[1].Row), place, place+1); !slices.Equal(got.Cabins[1].Row, row) {
							t.Errorf("Cancel of %d turns the row %+v into %+v", id, h.Cabins[1].Row, got.Cabins[1].Row)
						}
						if !slices.Equal(got.Todo, todo) || got.Turn != h.Turn {
							t.Errorf("Cancel of %d turns Todo %v into %v, and Turn %d into %d", id, todo, got.Todo, h.Turn, got.Turn)
						}
						wantUntied(t, h, got, p)
					}
				}
			}
		}
	}
	if resting < 100 {
		t.Errorf("only %d parties rest", resting)
	}
}

// wantUntied looks at what the Cancel of a party that waits must leave of the
// cabins.
func wantUntied(t *testing.T, h, got impl.House, p impl.Party) {
	t.Helper()
	for at, c := range got.Cabins {
		l := h.Cabins[at].Seats
		if at == p.From {
			l.Tied -= p.Size
		}
		if c.Seats != l || !wheelEqual(c.Wheel, h.Cabins[at].Wheel) {
			t.Errorf("Cancel of %+v turns cabin %d from %+v into %+v", p, at, h.Cabins[at], c)
		}
	}
}

// offersHouse is at tick 6 and has one offer of cabin 1 for each Until, beside
// an offer of cabin 0 and a party that waits for cabin 1.
func offersHouse(froms []int, untils ...int) impl.House {
	var list []impl.Party
	for i, until := range untils {
		list = append(list, impl.Party{Id: 10 * (i + 1), Cabin: 1, From: froms[i%len(froms)], Size: 1 + i%4, Tier: i % 3, Turn: 20 - i, State: 2, Until: until, Asked: i % 4})
	}
	list = append(list,
		impl.Party{Id: 900, Cabin: 0, From: 1, Size: 2, Tier: 1, Since: 1, Turn: 30, State: 2, Until: untils[0]},
		impl.Party{Id: 901, Cabin: 1, From: -1, Size: 5, Tier: 1, Since: 2, Turn: 31, State: 1})
	return houseMade(withSeats(greatestRules(), 40, 50, 60), 6, 40, list...)
}

// TestCancelOffered has offers that end at the same tick, whose pins lie in the
// same spoke a turn apart, and that lie in spokes of their own.
func TestCancelOffered(t *testing.T) {
	for _, untils := range [][]int{{9}, {14}, {3, 9}, {9, 9}, {5, 14}, {14, 5}, {5, 5, 5, 5}, {14, 14, 5, 5, 14}, {5, 14, 5, 14, 5, 14}, {1, 2, 3, 4, 10, 11, 12, 13}, {7, 8, 7, 8, 14, 5, 6}} {
		for _, froms := range [][]int{{-1}, {0}, {2}, {2, -1, 0}} {
			h := offersHouse(froms, untils...)
			wantHouse(t, h)
			for _, todo := range [][]int{nil, {1}, {1, 0, 2}, {0, 1, 2}, {2, 0, 1}, {0}, {2, 0}} {
				h.Todo = todo
				for _, p := range h.Parties[:len(untils)] {
					got := wantCancel(t, h, p.Id)
					pins := slices.DeleteFunc(allPins(h.Cabins[1].Wheel), func(other impl.Pin) bool { return other.Id == p.Id })
					if left := allPins(got.Cabins[1].Wheel); !slices.Equal(left, pins) || len(pins) != len(untils)-1 {
						t.Errorf("Cancel of %+v leaves the pins %v, want %v", p, left, pins)
					}
					if !slices.Equal(got.Cabins[1].Row, h.Cabins[1].Row) || !wheelEqual(got.Cabins[0].Wheel, h.Cabins[0].Wheel) {
						t.Errorf("Cancel of %+v turns %+v into %+v", p, h.Cabins, got.Cabins)
					}
					if l, now := h.Cabins[1].Seats, got.Cabins[1].Seats; now != ledger(l.Total, l.Free+p.Size, l.Held-p.Size, l.Sold, l.Tied) {
						t.Errorf("Cancel of %+v turns the counts %+v into %+v", p, l, now)
					}
					for _, from := range []int{0, 2} {
						l := h.Cabins[from].Seats
						if from == p.From {
							l.Tied -= p.Size
						}
						if got.Cabins[from].Seats != l {
							t.Errorf("Cancel of %+v turns the counts %+v into %+v", p, h.Cabins[from].Seats, got.Cabins[from].Seats)
						}
					}
					if !slices.Equal(got.Todo, todoWith(todo, 1)) {
						t.Errorf("Cancel of %+v turns Todo %v into %v", p, todo, got.Todo)
					}
				}
				wantCancel(t, h, 900)
				wantCancel(t, h, 901)
			}
		}
	}
}

// TestCancelAll cancels all parties in any order: what is left has no entries,
// no pins and no tied or held seats.
func TestCancelAll(t *testing.T) {
	for seed := range 250 {
		next := mixer(seed)
		h := randomHouse(next)
		all := 0
		for at := range h.Cabins {
			all += h.Cabins[at].Seats.Free + h.Cabins[at].Seats.Held
		}
		for len(h.Parties) > 0 {
			h = wantCancel(t, h, h.Parties[next(len(h.Parties))].Id)
		}
		for _, c := range h.Cabins {
			all -= c.Seats.Free
			if len(c.Row) != 0 || len(allPins(c.Wheel)) != 0 || c.Seats.Held != 0 || c.Seats.Tied != 0 {
				t.Errorf("the cabin %+v is left", c)
			}
		}
		if all != 0 {
			t.Errorf("%d free seats are lost", all)
		}
	}
}

// placeInRow counts the parties of the cabin that wait with a better level, or
// with the same one and a smaller Turn.
func placeInRow(h impl.House, p impl.Party) int {
	if p.State != 1 {
		return -1
	}
	n, level := 0, levelAfter(h.Rules, p.Tier, h.Now-p.Since)
	for _, other := range h.Parties {
		if other.State == 1 && other.Cabin == p.Cabin {
			l := levelAfter(h.Rules, other.Tier, h.Now-other.Since)
			if l < level || l == level && other.Turn < p.Turn {
				n++
			}
		}
	}
	return n
}

func TestPlaceOf(t *testing.T) {
	seen, resting, offered := map[int]int{}, 0, 0
	all := someHouses()
	for seed := range 300 {
		all = append(all, randomHouse(mixer(seed)))
	}
	for _, h := range all {
		for _, p := range h.Parties {
			wantPlace(t, h, p.Id, placeInRow(h, p))
			wantPlace(t, brokenHouse(h), p.Id, -1)
			seen[placeInRow(h, p)]++
			if p.State == 1 && p.Until > h.Now {
				resting++
			}
			if p.State == 2 {
				offered++
			}
			for _, id := range []int{p.Id - 1, p.Id + 1, -p.Id, p.Id + 1<<32} {
				if placeFound(h.Parties, id) < 0 {
					wantPlace(t, h, id, -1)
				}
			}
		}
		for _, id := range append(extremes(), -1, 0, 1000, 10000) {
			wantPlace(t, h, id, -1)
			wantPlace(t, brokenHouse(h), id, -1)
		}
	}
	if seen[0] < 100 || seen[1] < 50 || seen[2] < 20 || resting < 50 || offered < 100 {
		t.Errorf("the places are %v, %d parties rest and %d are offered", seen, resting, offered)
	}
	for _, h := range badHouses() {
		for id := -1; id <= 10; id++ {
			wantPlace(t, h, id, -1)
		}
	}
}

func TestPlaceOfByHand(t *testing.T) {
	h := handHouse()
	for i, want := range []int{1, -1, -1, 0, 0, 1, -1, -1, -1} {
		wantPlace(t, h, i+1, want)
	}
	h = rowOf([]int{2, 0, 3, 1}, -1)
	for i, want := range []int{2, 0, 3, 1, -1} {
		wantPlace(t, h, 10*(i+1), want)
	}
}

func TestLooseIn(t *testing.T) {
	all := someHouses()
	for seed := range 100 {
		all = append(all, tightHouse(mixer(seed)))
	}
	for _, h := range all {
		for cabin, c := range h.Cabins {
			wantLoose(t, h, cabin, c.Seats.Sold-c.Seats.Tied)
			wantLoose(t, brokenHouse(h), cabin, -1)
		}
		for _, cabin := range append(extremes(), -2, -1, len(h.Cabins), len(h.Cabins)+1, 4, 1<<32, -1<<32) {
			wantLoose(t, h, cabin, -1)
			wantLoose(t, brokenHouse(h), cabin, -1)
		}
	}
	for _, h := range badHouses() {
		for cabin := -1; cabin <= 4; cabin++ {
			wantLoose(t, h, cabin, -1)
		}
	}
	for at, want := range []int{8, 21, 36} {
		wantLoose(t, handHouse(), at, want)
	}
	for at, want := range []int{3, 0, 1} {
		wantLoose(t, needHouse(), at, want)
	}
}

// cellsOf counts the places in memory that can be reached from a state through
// its lists, the unused capacity included.
func cellsOf(h impl.House) map[any]int {
	cells := map[any]int{}
	for _, list := range [][]int{h.Rules.Seats, h.Todo, h.Jobs} {
		for at := range list[:cap(list)] {
			cells[&list[:cap(list)][at]]++
		}
	}
	for at := range h.Parties[:cap(h.Parties)] {
		cells[&h.Parties[:cap(h.Parties)][at]]++
	}
	for at := range h.Cabins[:cap(h.Cabins)] {
		c := &h.Cabins[:cap(h.Cabins)][at]
		cells[c]++
		for i := range c.Row[:cap(c.Row)] {
			cells[&c.Row[:cap(c.Row)][i]]++
		}
		lists := c.Wheel.Spoke[:cap(c.Wheel.Spoke)]
		for i, list := range lists {
			cells[&lists[i]]++
			for j := range list[:cap(list)] {
				cells[&list[:cap(list)][j]]++
			}
		}
	}
	return cells
}

// wantOwnMemory expects that no two lists of a result share memory, and that
// none shares it with an argument.
func wantOwnMemory(t *testing.T, got, argument impl.House) {
	t.Helper()
	others := cellsOf(argument)
	for cell, n := range cellsOf(got) {
		if n > 1 {
			t.Errorf("two lists of %+v share memory", got)
			return
		}
		if others[cell] > 0 {
			t.Errorf("%+v shares memory with %+v", got, argument)
			return
		}
	}
}

// sharingHouse is valid, but most of its lists lie in the same memory.
func sharingHouse() impl.House {
	nums := []int{2, 1, 0, 7}
	c, _ := impl.CabinNew(2)
	c.Row = make([]impl.Entry, 0, 5)
	list := make([]impl.Pin, 0, 5)
	c.Wheel = impl.Wheel{Spoke: slices.Repeat([][]impl.Pin{list}, 9)}
	h := impl.House{Rules: withSeats(plainRules(), 2, 2, 2), Turn: 1, Cabins: slices.Repeat([]impl.Cabin{c}, 3), Todo: nums[:3], Jobs: nums[1:3]}
	h.Rules.Seats = slices.Repeat([]int{2}, 3)
	return h
}

func TestCellsOf(t *testing.T) {
	if cells := cellsOf(sharingHouse()); !slices.Contains(mapValues(cells), 2) || !slices.Contains(mapValues(cells), 27) {
		t.Errorf("the cells are %v", cells)
	}
	h := handHouse()
	if cells := cellsOf(roomyHouse(h)); slices.Max(mapValues(cells)) != 1 {
		t.Errorf("the cells are %v", cells)
	}
	for cell := range cellsOf(h) {
		if cellsOf(roomyHouse(h))[cell] != 0 {
			t.Errorf("the copy has the cell %v", cell)
		}
	}
}

func mapValues(cells map[any]int) []int {
	var list []int
	for _, n := range cells {
		list = append(list, n)
	}
	return list
}

// keptJoins are performed in some states and rejected in others.
func keptJoins() []impl.Req {
	return []impl.Req{
		joinReq(10, 0, -1, 1, 0), joinReq(500, 1, 0, 1, 0), joinReq(999, 0, 1, 2, 1), joinReq(77, 2, -1, 1, 0),
		joinReq(1, 0, -1, 1, 0), joinReq(10, 3, -1, 1, 0), joinReq(10, 0, -1, 9, 0), joinReq(-1, -1, -2, -1, -1),
	}
}

// TestJoinArgumentsAreKept covers the unused capacity of every slice, and the
// memory of the results.
func TestJoinArgumentsAreKept(t *testing.T) {
	done, rejected := 0, 0
	for _, h := range append(append(someHouses(), badHouses()...), sharingHouse()) {
		room := roomyHouse(h)
		was := memoryOf(room)
		check := func(got impl.House, code int) {
			t.Helper()
			wantOwnMemory(t, got, room)
			if now := memoryOf(room); !reflect.DeepEqual(now, was) {
				t.Fatalf("the state %+v became %+v", was, now)
			}
			if code == 0 {
				done++
			} else {
				rejected++
			}
		}
		for _, q := range keptJoins() {
			got, code := joinOf(room, q)
			check(got, code)
			want, wantCode := joinOf(h, q)
			wantStep(t, "Join", h, q, got, code, want, wantCode)
		}
		ids := []int{-1, 0, 999, 1000}
		for _, p := range h.Parties {
			ids = append(ids, p.Id)
		}
		for _, id := range ids {
			got, code := impl.Cancel(room, id)
			check(got, code)
			want, wantCode := impl.Cancel(h, id)
			wantStep(t, "Cancel", h, cancelReq(id), got, code, want, wantCode)
			wantPlace(t, room, id, impl.PlaceOf(h, id))
		}
		for cabin := -1; cabin <= 4; cabin++ {
			wantLoose(t, room, cabin, impl.LooseIn(h, cabin))
		}
		if now := memoryOf(room); !reflect.DeepEqual(now, was) {
			t.Errorf("the state %+v became %+v", was, now)
		}
	}
	if done < 150 || rejected < 150 {
		t.Errorf("%d requests are performed and %d rejected", done, rejected)
	}
}

// TestResultsOfSharedLists has arguments whose lists share memory.
func TestResultsOfSharedLists(t *testing.T) {
	h := sharingHouse()
	wantHouse(t, h)
	h.Turn = 5
	for _, q := range append(keptJoins(), joinReq(8, 2, 1, 2, 1)) {
		got := wantJoin(t, h, q)
		wantOwnMemory(t, got, h)
		again := wantCancel(t, got, q.Id)
		wantOwnMemory(t, again, h)
		wantOwnMemory(t, again, got)
	}
	wantHouse(t, h)
}

// TestResultsCanBeChanged writes to a result, which changes neither the argument
// nor the result of another call.
func TestResultsCanBeChanged(t *testing.T) {
	for _, h := range []impl.House{handHouse(), needHouse(), brokenHouse(needHouse()), newHouse(plainRules())} {
		for _, q := range keptJoins() {
			one, _ := joinOf(h, q)
			two, code := joinOf(h, q)
			for _, spoil := range houseParts(one) {
				spoil()
			}
			if code == 0 && !houseEqual(two, joined(h, q)) || code != 0 && !houseEqual(two, h) {
				t.Errorf("Join of %+v in %+v: the results share memory", q, h)
			}
		}
	}
}

// TestJoinsNeverPanic has fields that are no index of anything.
func TestJoinsNeverPanic(t *testing.T) {
	edges := append(extremes(), -2, -1, 0, 1, 2, 3, 4, 999, 1000, 9999, 10000)
	for _, h := range append(badHouses()[:20], impl.House{}, needHouse(), newHouse(leastRules()), newHouse(greatestRules())) {
		for _, n := range edges {
			for _, f := range reqFields() {
				wantJoin(t, h, withReqField(joinReq(10, 0, -1, 1, 0), f, n))
				wantJoin(t, h, withReqField(joinReq(n, n, n, n, n), f, 1))
			}
			wantJoin(t, h, joinReq(n, n, n, n, n))
			wantCancel(t, h, n)
			impl.PlaceOf(h, n)
			impl.LooseIn(h, n)
		}
	}
}
