package tests

import (
	"reflect"
	"slices"
	"testing"

	"loop.example/g00494/impl"
)

// dueFound are the offers of a cabin that have expired, the earliest first, and
// those of one tick by Id.
func dueFound(h impl.House, cabin int) []int {
	var due []impl.Pin
	for _, p := range h.Parties {
		if p.Cabin == cabin && p.State == 2 && p.Until <= h.Now {
			due = append(due, pin(p.Until, p.Id))
		}
	}
	var ids []int
	for _, p := range sorted(due) {
		ids = append(ids, p.Id)
	}
	return ids
}

// expired is the document's Expire of a valid state, written out.
func expired(h impl.House, cabin int) impl.House {
	todo := h.Todo
	for _, id := range dueFound(h, cabin) {
		h = declined(h, id)
	}
	h.Todo = todo
	return h
}

func eligible(h impl.House, p impl.Party) bool {
	return p.State == 1 && p.Until <= h.Now && p.Size <= h.Cabins[p.Cabin].Seats.Free
}

func standsAhead(h impl.House, p, q impl.Party) bool {
	level, other := levelAfter(h.Rules, p.Tier, h.Now-p.Since), levelAfter(h.Rules, q.Tier, h.Now-q.Since)
	return level < other || level == other && p.Turn < q.Turn
}

// nextFound is the document's NextOffer of a valid state, found among the
// parties and not in the row.
func nextFound(h impl.House, cabin int) int {
	var best impl.Party
	for _, p := range h.Parties {
		if p.Cabin == cabin && eligible(h, p) && (best.Id == 0 || standsAhead(h, p, best)) {
			best = p
		}
	}
	return best.Id
}

// offeredAll is the state after all the offers that can be made, and their Ids.
func offeredAll(h impl.House, cabin int) (impl.House, []int) {
	var ids []int
	for id := nextFound(h, cabin); id != 0; id = nextFound(h, cabin) {
		h, ids = offered(h, id), append(ids, id)
	}
	return h, ids
}

func canScan(h impl.House, cabin int) bool { return impl.HouseOk(h) && isCabin(h, cabin) }

func wantDueIn(t *testing.T, h impl.House, cabin int, want ...int) {
	t.Helper()
	if got := impl.DueIn(h, cabin); !slices.Equal(got, want) {
		t.Errorf("DueIn(%+v, %d) = %v, want %v", h, cabin, got, want)
	}
}

func wantNext(t *testing.T, h impl.House, cabin, want int) {
	t.Helper()
	if got := impl.NextOffer(h, cabin); got != want {
		t.Errorf("NextOffer(%+v, %d) = %d, want %d", h, cabin, got, want)
	}
}

// wantChanged expects a valid state with as many seats in each cabin as before.
func wantChanged(t *testing.T, what string, h impl.House, cabin int, got, want impl.House) {
	t.Helper()
	if !houseEqual(got, want) {
		t.Errorf("%s of cabin %d turns %+v into %+v, want %+v", what, cabin, h, got, want)
	}
	wantHouse(t, got)
	wantTotals(t, h, got)
}

// wantExpire returns the state after Expire, with the state written out.
func wantExpire(t *testing.T, h impl.House, cabin int) impl.House {
	t.Helper()
	if !canScan(h, cabin) {
		wantNoScan(t, h, cabin)
		return h
	}
	wantDueIn(t, h, cabin, dueFound(h, cabin)...)
	got := impl.Expire(h, cabin)
	wantChanged(t, "Expire", h, cabin, got, expired(h, cabin))
	wantDueIn(t, got, cabin)
	return got
}

func wantOfferNext(t *testing.T, h impl.House, cabin int) (impl.House, int) {
	t.Helper()
	if !canScan(h, cabin) {
		wantNoScan(t, h, cabin)
		return h, 0
	}
	next := nextFound(h, cabin)
	wantNext(t, h, cabin, next)
	want := h
	if next != 0 {
		want = offered(h, next)
	}
	got, id := impl.Offer(h, cabin)
	if id != next {
		t.Errorf("Offer of cabin %d in %+v has the Id %d, want %d", cabin, h, id, next)
	}
	wantChanged(t, "Offer", h, cabin, got, want)
	return got, id
}

func wantScan(t *testing.T, h impl.House, cabin int) (impl.House, []int) {
	t.Helper()
	if !canScan(h, cabin) {
		wantNoScan(t, h, cabin)
		return h, nil
	}
	want, wantIds := offeredAll(expired(h, cabin), cabin)
	got, ids := impl.Scan(h, cabin)
	if !slices.Equal(ids, wantIds) {
		t.Errorf("Scan of cabin %d in %+v has the Ids %v, want %v", cabin, h, ids, wantIds)
	}
	wantChanged(t, "Scan", h, cabin, got, want)
	return got, ids
}

// wantNoScan expects of all functions that they leave the state as it is.
func wantNoScan(t *testing.T, h impl.House, cabin int) {
	t.Helper()
	wantDueIn(t, h, cabin)
	wantNext(t, h, cabin, 0)
	if got := impl.Expire(h, cabin); !houseEqual(got, h) {
		t.Errorf("Expire of cabin %d turns %+v into %+v", cabin, h, got)
	}
	if got, id := impl.Offer(h, cabin); !houseEqual(got, h) || id != 0 {
		t.Errorf("Offer of cabin %d turns %+v into %+v, %d", cabin, h, got, id)
	}
	if got, ids := impl.Scan(h, cabin); !houseEqual(got, h) || len(ids) != 0 {
		t.Errorf("Scan of cabin %d turns %+v into %+v, %v", cabin, h, got, ids)
	}
}

// wantNobodyLeft is the promise: it looks at the parties alone.
func wantNobodyLeft(t *testing.T, h impl.House, cabin int) {
	t.Helper()
	free := h.Cabins[cabin].Seats.Free
	for _, p := range h.Parties {
		if p.Cabin != cabin {
			continue
		}
		if p.State == 1 && p.Until <= h.Now && p.Size <= free {
			t.Errorf("%+v fits into %d free seats and has no offer in %+v", p, free, h)
		}
		if p.State == 2 && p.Until <= h.Now {
			t.Errorf("the offer of %+v has expired in %+v", p, h)
		}
	}
}

// wantGivenOffers follows a Scan from offer to offer.
func wantGivenOffers(t *testing.T, h impl.House, cabin int, got impl.House, ids []int) {
	t.Helper()
	step := impl.Expire(h, cabin)
	for _, id := range ids {
		at := placeFound(step.Parties, id)
		if at < 0 || step.Parties[at].State != 1 || step.Parties[at].Cabin != cabin || impl.QueueAt(step.Cabins[cabin].Row, id) < 0 {
			t.Errorf("Scan of cabin %d in %+v offers to %d", cabin, h, id)
			return
		}
		p := step.Parties[at]
		next, offeredTo := impl.Offer(step, cabin)
		if offeredTo != id {
			t.Errorf("Scan of cabin %d in %+v offers to %v, and Offer to %d", cabin, h, ids, offeredTo)
			return
		}
		wantGivenOffer(t, step, next, p)
		wantGivenOffer(t, step, got, p)
		step = next
	}
	if last, id := impl.Offer(step, cabin); id != 0 || !houseEqual(last, step) || !houseEqual(got, step) {
		t.Errorf("Scan of cabin %d in %+v = %+v, and Offer leads to %+v, %d", cabin, h, got, last, id)
	}
}

// wantGivenOffer looks at the party that gets the offer.
func wantGivenOffer(t *testing.T, h, got impl.House, p impl.Party) {
	t.Helper()
	want := p
	want.State, want.Until = 2, h.Now+h.Rules.Window
	at, c := placeFound(got.Parties, p.Id), got.Cabins[p.Cabin]
	if at < 0 || got.Parties[at] != want {
		t.Errorf("the offer of %+v leaves the parties %+v", p, got.Parties)
	}
	if impl.QueueAt(c.Row, p.Id) != -1 || !slices.Contains(c.Wheel.Spoke[want.Until%9], pin(want.Until, p.Id)) {
		t.Errorf("the offer of %+v leaves the cabin %+v", p, c)
	}
	wantOffer(t, got, p.Id, pin(want.Until, p.Id))
}

// wantElsewhereKept looks at what a scan must not change.
func wantElsewhereKept(t *testing.T, h impl.House, cabin int, got impl.House) {
	t.Helper()
	if got.Now != h.Now || got.Turn != h.Turn || !slices.Equal(got.Jobs, h.Jobs) || !slices.Equal(got.Todo, h.Todo) || !rulesEqual(got.Rules, h.Rules) {
		t.Errorf("the scan of cabin %d turns %+v into %+v", cabin, h, got)
	}
	for _, p := range h.Parties {
		if at := placeFound(got.Parties, p.Id); p.Cabin != cabin && (at < 0 || got.Parties[at] != p) {
			t.Errorf("the scan of cabin %d turns the parties %+v into %+v", cabin, h.Parties, got.Parties)
		}
	}
	for at, c := range h.Cabins {
		if at == cabin {
			continue
		}
		for _, p := range h.Parties {
			if p.Cabin == cabin && p.From == at && placeFound(got.Parties, p.Id) < 0 {
				c.Seats.Tied -= p.Size
			}
		}
		if !cabinEqual(got.Cabins[at], c) {
			t.Errorf("the scan of cabin %d turns cabin %d of %+v into %+v", cabin, at, h, got.Cabins[at])
		}
	}
	if l, now := h.Cabins[cabin].Seats, got.Cabins[cabin].Seats; now.Sold != l.Sold || now.Tied != l.Tied {
		t.Errorf("the scan of cabin %d turns %+v into %+v", cabin, l, now)
	}
}

// wantScanned has all that is promised of one Scan.
func wantScanned(t *testing.T, h impl.House, cabin int) (impl.House, []int) {
	t.Helper()
	got, ids := wantScan(t, h, cabin)
	wantNobodyLeft(t, got, cabin)
	wantGivenOffers(t, h, cabin, got, ids)
	wantElsewhereKept(t, h, cabin, got)
	between := wantExpire(t, h, cabin)
	wantElsewhereKept(t, h, cabin, between)
	if again := impl.Expire(between, cabin); !houseEqual(again, between) {
		t.Errorf("Expire of cabin %d in %+v, twice, gives %+v and %+v", cabin, h, between, again)
	}
	if later, late := impl.Scan(between, cabin); !houseEqual(later, got) || !slices.Equal(late, ids) {
		t.Errorf("Expire and Scan of cabin %d in %+v = %+v, %v, and Scan = %+v, %v", cabin, h, later, late, got, ids)
	}
	if again, more := impl.Scan(got, cabin); !houseEqual(again, got) || len(more) != 0 {
		t.Errorf("a second Scan of cabin %d turns %+v into %+v, %v", cabin, got, again, more)
	}
	return got, ids
}

// scarceHouse is a random state with few free seats and with Untils around Now;
// in half of them, all parties want one cabin.
func scarceHouse(next func(int) int) impl.House {
	h := randomHouse(next)
	list := slices.Clone(h.Parties)
	one := next(2) == 0
	for i, p := range list {
		most := h.Now + h.Rules.Rest
		if p.State == 2 {
			most = h.Now + h.Rules.Window
		}
		list[i].Until = max(most-next(most-h.Now+3), p.State-1)
		if one {
			list[i].Cabin = 0
		}
		if list[i].From == list[i].Cabin {
			list[i].From = -1
		}
	}
	h = remade(h, list...)
	for at, c := range h.Cabins {
		l := c.Seats
		free := min(next(10), l.Total-l.Held-l.Tied)
		h = withCabin(h, at, withLedger(c, ledger(l.Total, free, l.Held, l.Total-l.Held-free, l.Tied)))
	}
	return h
}

// TestScanByHand has a cabin with an offer at its last try, one that is not, one
// that runs, a party that rests and one that waits; and another one.
func TestScanByHand(t *testing.T) {
	h := needHouse()
	wantDueIn(t, h, 0, 8)
	wantDueIn(t, h, 1, 7, 9)
	wantDueIn(t, h, 2)
	wantNext(t, h, 0, 5)
	wantNext(t, h, 1, 6)
	wantNext(t, h, 2, 0)

	want := needHouse()
	want.Parties = slices.Delete(want.Parties, 6, 7)
	want.Parties[7] = impl.Party{Id: 9, Cabin: 1, From: 0, Size: 1, Tier: 2, Since: 7, Turn: 9, State: 1, Until: 10, Asked: 1}
	want.Cabins[1] = impl.Cabin{
		Seats: ledger(30, 26, 3, 1, 1),
		Row:   []impl.Entry{{Level: 0, Turn: 4, Id: 4, Size: 2}, {Level: 1, Turn: 5, Id: 6, Size: 1}, {Level: 2, Turn: 9, Id: 9, Size: 1}},
		Wheel: wheel(pin(10, 2)),
	}
	wantChanged(t, "Expire", h, 1, impl.Expire(h, 1), want)

	want.Parties[5] = impl.Party{Id: 6, Cabin: 1, From: 2, Size: 1, Tier: 1, Since: 4, Turn: 5, State: 2, Until: 11}
	want.Cabins[1] = impl.Cabin{
		Seats: ledger(30, 25, 4, 1, 1),
		Row:   []impl.Entry{{Level: 0, Turn: 4, Id: 4, Size: 2}, {Level: 2, Turn: 9, Id: 9, Size: 1}},
		Wheel: wheel(pin(10, 2), pin(11, 6)),
	}
	got, ids := impl.Scan(h, 1)
	wantChanged(t, "Scan", h, 1, got, want)
	if !slices.Equal(ids, []int{6}) {
		t.Errorf("Scan of cabin 1 has the Ids %v", ids)
	}

	want = needHouse()
	want.Parties[0] = impl.Party{Id: 1, Cabin: 0, From: -1, Size: 4, Tier: 2, Since: 6, Turn: 8, State: 2, Until: 11}
	want.Parties[4] = impl.Party{Id: 5, Cabin: 0, From: 2, Size: 2, Tier: 2, Since: 2, Turn: 3, State: 2, Until: 11}
	want.Parties[7] = impl.Party{Id: 8, Cabin: 0, From: -1, Size: 2, Tier: 1, Since: 5, Turn: 7, State: 1, Until: 10, Asked: 1}
	want.Cabins[0] = impl.Cabin{
		Seats: ledger(20, 6, 7, 7, 4),
		Row:   []impl.Entry{{Level: 1, Turn: 7, Id: 8, Size: 2}},
		Wheel: wheel(pin(9, 3), pin(11, 1), pin(11, 5)),
	}
	got, ids = impl.Scan(h, 0)
	wantChanged(t, "Scan", h, 0, got, want)
	if !slices.Equal(ids, []int{5, 1}) {
		t.Errorf("Scan of cabin 0 has the Ids %v", ids)
	}
}

// TestOfferByHand has a row whose first entry fits, and one whose first party
// rests.
func TestOfferByHand(t *testing.T) {
	h := handHouse()
	got, id := impl.Offer(h, 0)
	want := handHouse()
	want.Parties[4] = impl.Party{Id: 5, Cabin: 0, From: 2, Size: 2, Tier: 2, Since: 2, Turn: 3, State: 2, Until: 10}
	want.Cabins[0] = impl.Cabin{
		Seats: ledger(20, 3, 5, 12, 4),
		Row:   []impl.Entry{{Level: 2, Turn: 8, Id: 1, Size: 4}},
		Wheel: wheel(pin(8, 8), pin(9, 3), pin(10, 5)),
	}
	wantChanged(t, "Offer", h, 0, got, want)
	if id != 5 {
		t.Errorf("Offer of cabin 0 has the Id %d", id)
	}
	wantNext(t, got, 0, 0)
	h = withCabin(h, 1, withLedger(h.Cabins[1], ledger(30, 1, 8, 21, 1)))
	got, id = impl.Offer(h, 1)
	want = withCabin(h, 1, impl.Cabin{
		Seats: ledger(30, 0, 9, 21, 1),
		Row:   []impl.Entry{{Level: 1, Turn: 4, Id: 4, Size: 2}},
		Wheel: wheel(pin(8, 7), pin(8, 9), pin(10, 2), pin(10, 6)),
	})
	want.Parties = withParty(h.Parties, 5, impl.Party{Id: 6, Cabin: 1, From: 2, Size: 1, Tier: 1, Since: 4, Turn: 5, State: 2, Until: 10})
	wantChanged(t, "Offer", h, 1, got, want)
	if id != 6 {
		t.Errorf("Offer of cabin 1 has the Id %d", id)
	}
}

// TestScanLeavesNobody is P15. It also counts what the states have.
func TestScanLeavesNobody(t *testing.T) {
	seen := map[string]int{}
	for seed := range 1500 {
		next := mixer(seed)
		h := scarceHouse(next)
		if seed%5 == 0 {
			h = randomHouse(next)
		}
		for cabin := range h.Cabins {
			got, ids := wantScanned(t, h, cabin)
			seen["offers"] += len(ids)
			seen["several"] += min(len(ids)/2, 1)
			seen["due"] += len(dueFound(h, cabin))
			seen["late"] += min(len(dueFound(h, cabin))/2, 1)
			seen["removed"] += len(h.Parties) - len(got.Parties)
			for _, p := range got.Parties {
				if p.Cabin != cabin {
					continue
				}
				fits := p.Size <= got.Cabins[cabin].Seats.Free
				if p.State == 1 && p.Until > h.Now && fits {
					seen["resting"]++
				}
				if p.State == 1 && p.Until <= h.Now && !fits {
					seen["too large"]++
				}
				if p.State == 2 && !slices.Contains(ids, p.Id) {
					seen["running"]++
				}
				if slices.Contains(ids, p.Id) && slices.Contains(dueFound(h, cabin), p.Id) {
					seen["again"]++
				}
			}
		}
	}
	for name, least := range map[string]int{"offers": 500, "several": 100, "due": 500, "late": 100, "removed": 200, "resting": 200, "too large": 200, "running": 300, "again": 20} {
		if seen[name] < least {
			t.Errorf("the states have only %d of %q", seen[name], name)
		}
	}
}

// restingRow has parties 10, 20, 30, … of cabin 0 in this order, with these
// Untils and with 3 seats each, all of which can be free.
func restingRow(now int, untils ...int) impl.House {
	var list []impl.Party
	for i, until := range untils {
		list = append(list, impl.Party{Id: 10 * (i + 1), Cabin: 0, From: 1, Size: 3, Tier: 1, Since: now, Turn: 1 + i, State: 1, Until: until, Asked: i % 2})
	}
	h := houseMade(withSeats(greatestRules(), 30, 40), now, 50, list...)
	return withCabin(h, 0, withLedger(h.Cabins[0], ledger(30, 30, 0, 0, 0)))
}

// TestRestEnds has one party with each Until around Now.
func TestRestEnds(t *testing.T) {
	for _, now := range []int{0, 1, 5, 999999, 1000000} {
		for until := max(now-12, 0); until <= now+8; until++ {
			h := restingRow(now, until)
			wantHouse(t, h)
			if until > now {
				wantNext(t, h, 0, 0)
			} else {
				wantNext(t, h, 0, 10)
			}
			wantOfferNext(t, h, 0)
			wantScanned(t, h, 0)
		}
	}
}

// TestRestingPartiesAreSkipped has each of four parties resting or not, in a row
// with all four.
func TestRestingPartiesAreSkipped(t *testing.T) {
	for _, now := range []int{3, 999995} {
		for resting := range 16 {
			var untils, offers, rests []int
			for i := range 4 {
				if resting>>i%2 == 1 {
					untils, rests = append(untils, now+1+i), append(rests, 10*(i+1))
				} else {
					untils, offers = append(untils, now-i), append(offers, 10*(i+1))
				}
			}
			h := restingRow(now, untils...)
			row := h.Cabins[0].Row
			wantNext(t, h, 0, append(offers, 0)[0])
			got, ids := wantScanned(t, h, 0)
			if !slices.Equal(ids, offers) {
				t.Errorf("with the Untils %v at %d, Scan offers to %v, want %v", untils, now, ids, offers)
			}
			var left []impl.Entry
			for _, e := range row {
				if slices.Contains(rests, e.Id) {
					left = append(left, e)
				}
			}
			if !slices.Equal(got.Cabins[0].Row, left) {
				t.Errorf("with the Untils %v at %d, Scan turns the row %v into %v", untils, now, row, got.Cabins[0].Row)
			}
		}
	}
}

// TestRestingPartyKeepsItsPlace has one that rests ahead of one that fits.
func TestRestingPartyKeepsItsPlace(t *testing.T) {
	h := restingRow(6, 7, 6, 8, 0)
	got, id := wantOfferNext(t, h, 0)
	if id != 20 || impl.PlaceOf(got, 10) != 0 || impl.PlaceOf(got, 30) != 1 || impl.PlaceOf(got, 40) != 2 {
		t.Errorf("Offer to %d leaves the row %v", id, got.Cabins[0].Row)
	}
	h = withCabin(h, 0, withLedger(h.Cabins[0], ledger(30, 3, 0, 27, 0)))
	got, ids := wantScanned(t, h, 0)
	if !slices.Equal(ids, []int{20}) || got.Cabins[0].Seats.Free != 0 || !slices.Equal(got.Cabins[0].Row, []impl.Entry{h.Cabins[0].Row[0], h.Cabins[0].Row[2], h.Cabins[0].Row[3]}) {
		t.Errorf("Scan offers to %v and leaves %+v", ids, got)
	}
}

// TestRestingRowLater has a row whose parties all rest, at each later tick.
func TestRestingRowLater(t *testing.T) {
	h := restingRow(4, 7, 5, 6, 5)
	wantNext(t, h, 0, 0)
	if got, ids := wantScanned(t, h, 0); len(ids) != 0 || !houseEqual(got, h) {
		t.Errorf("Scan offers to %v of those that rest", ids)
	}
	for now, want := range map[int][]int{5: {20, 40}, 6: {20, 30, 40}, 7: {10, 20, 30, 40}, 8: {10, 20, 30, 40}} {
		later := atTick(h, now)
		if !slices.Equal(later.Cabins[0].Row, h.Cabins[0].Row) {
			t.Errorf("the row at %d is %v", now, later.Cabins[0].Row)
		}
		wantNext(t, later, 0, want[0])
		if _, ids := wantScanned(t, later, 0); !slices.Equal(ids, want) {
			t.Errorf("at %d, Scan offers to %v, want %v", now, ids, want)
		}
	}
}

// TestRestOfOneTick keeps the row and Now and changes only Until, and the other
// way round.
func TestRestOfOneTick(t *testing.T) {
	for _, now := range []int{0, 1, 9, 999998, 999999} {
		h := restingRow(now, now+1)
		wantNext(t, h, 0, 0)
		later := h
		later.Now++
		wantHouse(t, later)
		wantNext(t, later, 0, 10)
		wantScanned(t, later, 0)
		h.Parties = withParty(h.Parties, 0, impl.Party{Id: 10, Cabin: 0, From: 1, Size: 3, Tier: 1, Since: now, Turn: 1, State: 1, Until: now})
		wantNext(t, h, 0, 10)
	}
}

// lateRow is at tick 9 and has an offer of 4 seats that has expired, and is not
// its last one, ahead of another party that waits, with this size.
func lateRow(rest, size, free int) impl.House {
	r := withSeats(greatestRules(), 30, 40)
	r.Rest = rest
	h := houseMade(r, 9, 10,
		impl.Party{Id: 5, Cabin: 1, From: 0, Size: 4, Tier: 1, Since: 2, Turn: 3, State: 2, Until: 9, Asked: 2},
		impl.Party{Id: 6, Cabin: 1, From: -1, Size: size, Tier: 1, Since: 2, Turn: 4, State: 1})
	return withCabin(h, 1, withLedger(h.Cabins[1], ledger(40, free, 4, 36-free, 0)))
}

// TestLateOfferRests has each Rest: a party whose offer expires rests from that
// tick on, and the one behind it may get its seats.
func TestLateOfferRests(t *testing.T) {
	for rest := range 9 {
		for size := 1; size <= 6; size++ {
			for free := range 8 {
				h := lateRow(rest, size, free)
				wantHouse(t, h)
				got, ids := wantScanned(t, h, 1)
				var want []int
				if rest == 0 {
					want = append(want, 5)
				}
				if rest == 0 && size <= free || rest > 0 && size <= free+4 {
					want = append(want, 6)
				}
				if !slices.Equal(ids, want) {
					t.Errorf("with a Rest of %d, %d seats and %d free, Scan offers to %v, want %v", rest, size, free, ids, want)
				}
				p := got.Parties[0]
				if rest == 0 && (p.State != 2 || p.Until != 17 || p.Asked != 3) || rest > 0 && (p.State != 1 || p.Until != 9+rest || p.Asked != 3) {
					t.Errorf("with a Rest of %d, Scan leaves %+v", rest, p)
				}
			}
		}
	}
}

// TestLastTryMakesRoom has an expired offer whose party goes, so that its seats
// can be offered to the next one whatever the Rest is.
func TestLastTryMakesRoom(t *testing.T) {
	for rest := range 9 {
		h := lateRow(rest, 4, 0)
		h.Parties[0].Asked = 3
		wantHouse(t, h)
		wantNext(t, h, 1, 0)
		got, ids := wantScanned(t, h, 1)
		if !slices.Equal(ids, []int{6}) || len(got.Parties) != 1 || got.Cabins[0].Seats.Tied != 0 || got.Cabins[1].Seats != h.Cabins[1].Seats {
			t.Errorf("Scan offers to %v and leaves %+v", ids, got)
		}
	}
}

// fitRow has parties 1, 2, 3, … of cabin 1 with these sizes, in this order, of
// one level, and as many free seats.
func fitRow(free int, sizes ...int) impl.House {
	var list []impl.Party
	for i, size := range sizes {
		list = append(list, impl.Party{Id: 1 + i, Cabin: 1, From: -1, Size: size, Tier: 2, Turn: 1 + i, State: 1})
	}
	h := houseMade(withSeats(greatestRules(), 10, 60), 0, 20, list...)
	return withCabin(h, 1, withLedger(h.Cabins[1], ledger(60, free, 0, 60-free, 0)))
}

func TestNextOfferFits(t *testing.T) {
	for _, c := range []struct {
		free  int
		sizes []int
		want  int
	}{
		{0, nil, 0}, {60, nil, 0}, {0, []int{1}, 0}, {0, []int{1, 1, 1}, 0},
		{1, []int{1}, 1}, {1, []int{2}, 0}, {2, []int{2}, 1}, {2, []int{3}, 0},
		{5, []int{5}, 1}, {5, []int{6}, 0}, {6, []int{6}, 1}, {60, []int{6}, 1},
		{3, []int{4, 3}, 2}, {3, []int{4, 5, 3, 2}, 3}, {3, []int{4, 5, 6, 2}, 4}, {3, []int{4, 5, 6, 4}, 0},
		{3, []int{3, 3, 3}, 1}, {4, []int{3, 4, 1}, 1}, {1, []int{6, 5, 4, 3, 2, 1}, 6}, {1, []int{6, 5, 4, 3, 2, 2}, 0},
		{1, []int{2, 2, 2, 2, 2, 2, 2, 2, 2, 1}, 10},
	} {
		h := fitRow(c.free, c.sizes...)
		wantHouse(t, h)
		wantNext(t, h, 1, c.want)
		wantOfferNext(t, h, 1)
		wantScanned(t, h, 1)
	}
}

// TestScanOrders has offers that leave too few seats for the next party, but not
// for one behind it.
func TestScanOrders(t *testing.T) {
	for _, c := range []struct {
		free        int
		sizes, want []int
	}{
		{6, []int{4, 4, 2}, []int{1, 3}}, {6, []int{4, 3, 2, 1}, []int{1, 3}}, {7, []int{6, 2, 1, 1}, []int{1, 3}},
		{5, []int{6, 1, 5, 1, 3}, []int{2, 4, 5}}, {10, []int{1, 2, 3, 4}, []int{1, 2, 3, 4}}, {9, []int{1, 2, 3, 4}, []int{1, 2, 3}},
		{60, []int{6, 6, 6, 6, 6, 6, 6, 6, 6, 6}, []int{1, 2, 3, 4, 5, 6, 7, 8, 9, 10}}, {59, []int{6, 6, 6, 6, 6, 6, 6, 6, 6, 6}, []int{1, 2, 3, 4, 5, 6, 7, 8, 9}},
	} {
		h := fitRow(c.free, c.sizes...)
		if _, ids := wantScanned(t, h, 1); !slices.Equal(ids, c.want) {
			t.Errorf("Scan of %v with %d free seats offers to %v, want %v", c.sizes, c.free, ids, c.want)
		}
	}
}

// TestNextOfferBySameLevel has rows of one level in each order of the Turns: the
// least Turn comes first, whatever the Id and the tier are.
func TestNextOfferBySameLevel(t *testing.T) {
	for _, turns := range ordersOf(4) {
		var list []impl.Party
		for i, turn := range turns {
			list = append(list, impl.Party{Id: 10 * (i + 1), Cabin: 2, From: -1, Size: 2, Tier: turn % 2, Since: 4 * turn, Turn: 1 + turn, State: 1})
		}
		r := cabinRules()
		r.Period = 1
		h := houseMade(r, 13, 9, list...)
		wantHouse(t, h)
		_, ids := wantScanned(t, h, 2)
		for place, id := range ids {
			if turns[id/10-1] != place {
				t.Errorf("with the Turns %v, Scan offers to %v", turns, ids)
			}
		}
		wantNext(t, h, 2, 10*(slices.Index(turns, 0)+1))
	}
}

// TestNextOfferByLevel has a better level behind a smaller Turn.
func TestNextOfferByLevel(t *testing.T) {
	for now := range 40 {
		h := houseMade(cabinRules(), now, 9,
			impl.Party{Id: 7, Cabin: 2, From: -1, Size: 2, Tier: 2, Turn: 1, State: 1},
			impl.Party{Id: 8, Cabin: 2, From: -1, Size: 2, Tier: 0, Since: now, Turn: 2, State: 1})
		want := 8
		if now >= 10 {
			want = 7
		}
		wantNext(t, h, 2, want)
		wantScanned(t, h, 2)
	}
}

// pinsHouse has these offers of cabin 1 at a tick, beside offers and parties of
// the other cabins.
func pinsHouse(now int, pins ...impl.Pin) impl.House {
	list := offeredAt(pins...)
	list = append(list,
		impl.Party{Id: 997, Cabin: 0, From: 1, Size: 2, Turn: 100, State: 2, Until: 1},
		impl.Party{Id: 998, Cabin: 2, From: 1, Size: 3, Turn: 101, State: 2, Until: now + 1},
		impl.Party{Id: 999, Cabin: 1, From: 2, Size: 6, Turn: 102, State: 1})
	slices.SortFunc(list, func(a, b impl.Party) int { return a.Id - b.Id })
	return houseMade(withSeats(greatestRules(), 20, 30, 40), now, 200, list...)
}

func TestDueIn(t *testing.T) {
	for _, c := range []struct {
		now  int
		pins []impl.Pin
		want []int
	}{
		{9, nil, nil},
		{9, []impl.Pin{pin(8, 3)}, []int{3}},
		{9, []impl.Pin{pin(9, 3)}, []int{3}},
		{9, []impl.Pin{pin(10, 3)}, nil},
		{9, []impl.Pin{pin(8, 3), pin(9, 2), pin(10, 1)}, []int{3, 2}},
		{9, []impl.Pin{pin(10, 1), pin(9, 2), pin(8, 3)}, []int{3, 2}},
		{9, []impl.Pin{pin(9, 40), pin(9, 7), pin(9, 100)}, []int{7, 40, 100}},
		{9, []impl.Pin{pin(9, 40), pin(8, 99), pin(9, 7), pin(8, 100)}, []int{99, 100, 7, 40}},
		{14, []impl.Pin{pin(14, 1), pin(5, 2)}, []int{2, 1}},
		{13, []impl.Pin{pin(14, 1), pin(5, 2)}, []int{2}},
		{23, []impl.Pin{pin(14, 1), pin(5, 2), pin(23, 3), pin(6, 4)}, []int{2, 4, 1, 3}},
		{22, []impl.Pin{pin(14, 1), pin(5, 2), pin(23, 3), pin(6, 4)}, []int{2, 4, 1}},
		{30, []impl.Pin{pin(27, 4), pin(18, 6), pin(9, 5), pin(27, 3), pin(36, 1), pin(10, 2)}, []int{5, 2, 6, 3, 4}},
		{0, []impl.Pin{pin(1, 1), pin(8, 2)}, nil},
		{1, []impl.Pin{pin(1, 1), pin(8, 2), pin(9, 3)}, []int{1}},
		{1000000, []impl.Pin{pin(1000008, 1), pin(1000000, 2), pin(999999, 3), pin(1000001, 4), pin(1, 5)}, []int{5, 3, 2}},
		{999999, []impl.Pin{pin(1000007, 1), pin(1000000, 2), pin(999999, 3), pin(999990, 4)}, []int{4, 3}},
	} {
		h := pinsHouse(c.now, c.pins...)
		wantHouse(t, h)
		wantDueIn(t, h, 1, c.want...)
		wantScanned(t, h, 1)
		wantDueIn(t, h, 2)
		if c.now > 0 {
			wantDueIn(t, h, 0, 997)
		} else {
			wantDueIn(t, h, 0)
		}
	}
}

// TestDueInAtEachTick has one set of offers at each tick up to the last one.
func TestDueInAtEachTick(t *testing.T) {
	h := pinsHouse(20, pin(3, 1), pin(12, 2), pin(21, 3), pin(28, 4), pin(12, 5), pin(20, 6))
	order := []impl.Pin{pin(3, 1), pin(12, 2), pin(12, 5), pin(20, 6), pin(21, 3), pin(28, 4)}
	for now := 20; now <= 30; now++ {
		later := atTick(h, now)
		var want []int
		for _, p := range order {
			if p.At <= now {
				want = append(want, p.Id)
			}
		}
		wantDueIn(t, later, 1, want...)
		wantScanned(t, later, 1)
	}
}

// TestExpireOne has each number of tries, each number of offers that were not
// taken, each rest, each From and each Todo.
func TestExpireOne(t *testing.T) {
	again, last := 0, 0
	for tries := 1; tries <= 4; tries++ {
		for asked := range tries {
			for _, rest := range []int{0, 1, 8} {
				for _, from := range []int{-1, 0, 2} {
					for until := 8; until <= 10; until++ {
						r := withSeats(greatestRules(), 30, 40, 50)
						r.Tries, r.Rest = tries, rest
						p := impl.Party{Id: 50, Cabin: 1, From: from, Size: 4, Tier: 1, Since: 4, Turn: 7, State: 2, Until: until, Asked: asked}
						h := houseMade(r, 9, 20,
							impl.Party{Id: 3, Cabin: 1, From: from, Size: 2, Tier: 1, Since: 3, Turn: 6, State: 1},
							p,
							impl.Party{Id: 51, Cabin: 1, From: -1, Size: 1, Tier: 1, Since: 5, Turn: 8, State: 1, Until: 9, Asked: asked},
							impl.Party{Id: 60, Cabin: 0, From: 1, Size: 5, Tier: 0, Since: 9, Turn: 12, State: 2, Until: 9, Asked: asked},
							impl.Party{Id: 61, Cabin: 1, From: 2, Size: 3, Tier: 0, Since: 9, Turn: 13, State: 2, Until: 12, Asked: 0})
						wantHouse(t, h)
						for _, todo := range [][]int{nil, {1}, {2, 1, 0}, {0, 2}} {
							h.Todo = todo
							got := wantExpire(t, h, 1)
							wantElsewhereKept(t, h, 1, got)
							if until > 9 {
								if !houseEqual(got, h) {
									t.Errorf("with nothing due, Expire turns %+v into %+v", h, got)
								}
								continue
							}
							wantOthersKept(t, h, got, p)
							wantExpired(t, h, got, p)
							if asked+1 < tries {
								again++
							} else {
								last++
							}
						}
					}
				}
			}
		}
	}
	if again < 200 || last < 200 {
		t.Errorf("%d parties wait again and %d are removed", again, last)
	}
}

// wantExpired looks at the party whose offer has expired.
func wantExpired(t *testing.T, h, got impl.House, p impl.Party) {
	t.Helper()
	at, from := placeFound(got.Parties, p.Id), 0
	if p.Asked+1 < h.Rules.Tries {
		want := p
		want.State, want.Until, want.Asked = 1, h.Now+h.Rules.Rest, p.Asked+1
		if at < 0 || got.Parties[at] != want {
			t.Errorf("Expire of %+v leaves %+v, want %+v among them", p, got.Parties, want)
			return
		}
		wantPlace(t, got, p.Id, placeInRow(got, want))
		if !impl.QueueOk(got.Cabins[p.Cabin].Row) {
			t.Errorf("Expire of %+v leaves the row %+v", p, got.Cabins[p.Cabin].Row)
		}
	} else {
		from = p.Size
		if at >= 0 || impl.QueueAt(got.Cabins[p.Cabin].Row, p.Id) >= 0 {
			t.Errorf("Expire of the last offer of %+v leaves %+v", p, got)
		}
	}
	for at, c := range h.Cabins {
		l := c.Seats
		if at == p.Cabin {
			l = ledger(l.Total, l.Free+p.Size, l.Held-p.Size, l.Sold, l.Tied)
		}
		if at == p.From {
			l.Tied -= from
		}
		if got.Cabins[at].Seats != l {
			t.Errorf("Expire of %+v turns the counts of cabin %d from %+v into %+v", p, at, c.Seats, got.Cabins[at].Seats)
		}
	}
	if slices.Contains(allPins(got.Cabins[p.Cabin].Wheel), pin(p.Until, p.Id)) || !slices.Equal(got.Todo, h.Todo) {
		t.Errorf("Expire of %+v leaves %+v", p, got)
	}
	wantNoOffer(t, got, p.Id)
}

// TestExpireSeveral has offers at their last try and others, of one Until, of
// several, and a turn of the wheel apart.
func TestExpireSeveral(t *testing.T) {
	gone, left := 0, 0
	for _, untils := range [][]int{{6}, {7}, {6, 6}, {5, 6, 7}, {7, 6, 5, 4, 3, 2, 1}, {14, 5, 14, 5}, {4, 13, 4, 13, 4, 13, 4, 13}, {1, 1, 1, 1, 1, 1, 1, 1}, {6, 7, 6, 7, 6, 7, 6, 7}} {
		for _, froms := range [][]int{{-1}, {0}, {2}, {2, -1, 0}} {
			h := offersHouse(froms, untils...)
			wantHouse(t, h)
			for _, todo := range todosOf(3) {
				h.Todo = todo
				got := wantExpire(t, h, 1)
				for i, p := range h.Parties[:len(untils)] {
					at := placeFound(got.Parties, p.Id)
					switch {
					case p.Until > 6:
						wantOffer(t, got, p.Id, pin(untils[i], p.Id))
					case p.Asked == 3:
						gone++
						if at >= 0 {
							t.Errorf("Expire of the last offer of %+v leaves %+v", p, got.Parties)
						}
					default:
						left++
						if at < 0 || got.Parties[at].State != 1 || got.Parties[at].Until != 14 || got.Parties[at].Asked != p.Asked+1 {
							t.Errorf("Expire of %+v leaves %+v", p, got.Parties)
						}
					}
				}
				if !slices.Equal(got.Todo, todo) {
					t.Errorf("Expire turns Todo %v into %v", todo, got.Todo)
				}
			}
			wantScanned(t, h, 1)
			wantScanned(t, h, 0)
			wantScanned(t, h, 2)
		}
	}
	if gone < 100 || left < 500 {
		t.Errorf("%d parties are removed and %d wait again", gone, left)
	}
}

// TestExpireAll has a full cabin of offers that have all expired.
func TestExpireAll(t *testing.T) {
	for n := 1; n <= 10; n++ {
		for tries := 1; tries <= 4; tries++ {
			for rest := range 3 {
				r := withSeats(greatestRules(), 60, 60, 60)
				r.Room, r.Tries, r.Rest = n, tries, rest
				h := houseMade(r, 3, 20, crowd(1, 0, n)...)
				wantHouse(t, h)
				got := wantExpire(t, h, 1)
				if l := h.Cabins[1].Seats; got.Cabins[1].Seats != ledger(60, l.Free+n, 0, l.Sold, 0) || len(allPins(got.Cabins[1].Wheel)) != 0 {
					t.Errorf("Expire leaves %+v", got.Cabins[1])
				}
				_, ids := wantScanned(t, h, 1)
				want := n
				if tries == 1 || rest > 0 {
					want = 0
				}
				if len(ids) != want {
					t.Errorf("with %d tries and a Rest of %d, Scan makes %d offers of %d", tries, rest, len(ids), n)
				}
			}
		}
	}
}

// TestLastTryUntiesOnly has each From: the seats stay sold, and no cabin is put
// into Todo.
func TestLastTryUntiesOnly(t *testing.T) {
	for from := -1; from < 4; from++ {
		if from == 1 {
			continue
		}
		for tries := 1; tries <= 4; tries++ {
			r := withSeats(greatestRules(), 9, 9, 9, 9)
			r.Tries = tries
			p := impl.Party{Id: 8, Cabin: 1, From: from, Size: 5, Tier: 2, Turn: 1, State: 2, Until: 2, Asked: tries - 1}
			h := houseMade(r, 4, 2, p)
			got := wantExpire(t, h, 1)
			for at, c := range got.Cabins {
				was := h.Cabins[at].Seats
				if at == from && (was.Tied != 5 || c.Seats != ledger(9, was.Free, 0, was.Sold, 0)) || at != from && at != 1 && c.Seats != was {
					t.Errorf("Expire turns the counts of cabin %d from %+v into %+v", at, was, c.Seats)
				}
			}
			if len(got.Todo) != 0 || len(got.Parties) != 0 {
				t.Errorf("Expire leaves %+v", got)
			}
		}
	}
}

// TestOfferPlaces has each entry of a row as the only one that fits, with each
// Window.
func TestOfferPlaces(t *testing.T) {
	for window := 1; window <= 8; window++ {
		for _, now := range []int{0, 1, 8, 9, 500, 999999, 1000000} {
			for at := range 5 {
				sizes := []int{4, 5, 6, 5, 4}
				sizes[at] = 3
				h := fitRow(3, sizes...)
				h.Rules.Window, h.Rules.Period = window, 1
				for i := range h.Parties {
					h.Parties[i].Since, h.Parties[i].Asked = now, i%4
				}
				h = atTick(h, now)
				wantHouse(t, h)
				got, id := wantOfferNext(t, h, 1)
				if id != at+1 || !slices.Equal(got.Cabins[1].Row, slices.Delete(slices.Clone(h.Cabins[1].Row), at, at+1)) {
					t.Errorf("Offer to the entry %d of %v leaves %v", at, h.Cabins[1].Row, got.Cabins[1].Row)
				}
				want := impl.Party{Id: at + 1, Cabin: 1, From: -1, Size: 3, Tier: 2, Since: now, Turn: at + 1, State: 2, Until: now + window, Asked: at % 4}
				if got.Parties[at] != want || got.Cabins[1].Seats != ledger(60, 0, 3, 57, 0) {
					t.Errorf("Offer turns %+v into %+v with %+v, want %+v", h.Parties[at], got.Parties[at], got.Cabins[1].Seats, want)
				}
				wantOffer(t, got, id, pin(now+window, id))
				if !wheelEqual(got.Cabins[1].Wheel, wheel(pin(now+window, id))) {
					t.Errorf("Offer leaves the wheel %+v", got.Cabins[1].Wheel)
				}
			}
		}
	}
}

// TestOfferPins has pins of the same tick with smaller and greater Ids, and pins
// in the same list a turn earlier.
func TestOfferPins(t *testing.T) {
	for id := 1; id <= 9; id += 2 {
		for _, pins := range [][]impl.Pin{{pin(20, 4), pin(20, 6)}, {pin(11, 4), pin(20, 6)}, {pin(11, 6), pin(11, 4), pin(20, 8), pin(20, 2)}, {pin(19, 2), pin(18, 8), pin(2, 6)}} {
			list := append(offeredAt(pins...), impl.Party{Id: id, Cabin: 1, From: 0, Size: 2, Tier: 1, Since: 12, Turn: 30, State: 1})
			slices.SortFunc(list, func(a, b impl.Party) int { return a.Id - b.Id })
			h := houseMade(withSeats(greatestRules(), 20, 30), 12, 40, list...)
			wantHouse(t, h)
			got, offeredTo := wantOfferNext(t, h, 1)
			if offeredTo != id || !wheelEqual(got.Cabins[1].Wheel, wheel(append(pins, pin(20, id))...)) {
				t.Errorf("Offer to %d leaves the wheel %+v", offeredTo, got.Cabins[1].Wheel)
			}
			wantScanned(t, h, 1)
		}
	}
}

// TestScanAtTheEnds has the first and the last ticks, and offers that end beyond
// the last one.
func TestScanAtTheEnds(t *testing.T) {
	for _, now := range []int{0, 1, 2, 999991, 999992, 999999, 1000000} {
		for _, r := range []impl.Rules{withSeats(greatestRules(), 20, 30), withSeats(leastRules(), 3, 4)} {
			r.Room, r.Crew = 10, 1
			list := []impl.Party{
				{Id: 1, Cabin: 0, From: 1, Size: 1, Since: now, Turn: 999997, State: 1, Until: now + r.Rest},
				{Id: 2, Cabin: 0, From: -1, Size: 1, Since: now, Turn: 999998, State: 1},
				{Id: 999, Cabin: 0, From: -1, Size: 1, Since: now, Turn: 1000000, State: 2, Until: max(now, 1)},
			}
			h := houseMade(r, now, 1000001, list...)
			h = withCabin(h, 0, withLedger(h.Cabins[0], ledger(r.Seats[0], 2, 1, r.Seats[0]-3, 0)))
			wantHouse(t, h)
			got, ids := wantScanned(t, h, 0)
			want := []int{2}
			if r.Rest == 0 {
				want = []int{1, 2}
			}
			if !slices.Equal(ids, want) || !slices.Contains(allPins(got.Cabins[0].Wheel), pin(now+r.Window, 2)) {
				t.Errorf("at %d, Scan offers to %v and leaves %+v", now, ids, got)
			}
		}
	}
}

// TestScanOfInvalidHouses covers each cabin of states that are not valid.
func TestScanOfInvalidHouses(t *testing.T) {
	for _, h := range append(badHouses(), brokenHouse(needHouse()), brokenHouse(lateRow(0, 1, 5)), brokenHouse(offersHouse([]int{-1}, 5, 6, 14))) {
		wantHouseOk(t, h, false)
		for cabin := -1; cabin <= 4; cabin++ {
			wantNoScan(t, h, cabin)
		}
	}
}

// TestScanWithoutCabin has numbers that are no index of a cabin.
func TestScanWithoutCabin(t *testing.T) {
	for _, h := range append(someHouses(), needHouse(), lateRow(0, 1, 5), offersHouse([]int{-1}, 5, 6, 14)) {
		for _, cabin := range append(extremes(), -2, -1, len(h.Cabins), len(h.Cabins)+1, 5, 999, 1<<32, 1<<32+1, -1<<32, -1<<32+1) {
			wantNoScan(t, h, cabin)
			wantNoScan(t, brokenHouse(h), cabin)
		}
	}
}

func TestScanOfSomeHouses(t *testing.T) {
	for _, h := range append(someHouses(), needHouse(), chainHouse(2), rowOf([]int{2, 0, 3, 1}, -1, 0)) {
		for _, now := range []int{h.Now, h.Now + 1, h.Now + 2, h.Now + 9, 1000000} {
			if now > 1000000 {
				continue
			}
			later := atTick(h, now)
			for cabin := range h.Cabins {
				wantScanned(t, later, cabin)
				wantOfferNext(t, later, cabin)
			}
		}
	}
}

// TestScansOfAllCabins leaves nobody in any cabin, in whatever order they come.
func TestScansOfAllCabins(t *testing.T) {
	for seed := range 60 {
		first := scarceHouse(mixer(seed))
		for _, order := range ordersOf(len(first.Cabins)) {
			h := first
			for _, cabin := range order {
				h, _ = impl.Scan(h, cabin)
			}
			for cabin := range h.Cabins {
				wantNobodyLeft(t, h, cabin)
			}
			wantHouse(t, h)
		}
	}
}

// TestScansInAnyOrder runs histories of all the requests that there are up to
// here, with scans, and with ticks that are made by hand.
func TestScansInAnyOrder(t *testing.T) {
	offers, lost, sold := 0, 0, 0
	for seed := range 50 {
		next := mixer(seed)
		h, _ := impl.HouseNew(randomRules(next))
		for range 100 {
			id, cabin := 1+next(999), next(len(h.Cabins))
			if len(h.Parties) > 0 {
				id = h.Parties[next(len(h.Parties))].Id
			}
			was := len(h.Parties)
			switch next(9) {
			case 0, 1:
				h = wantJoin(t, h, randomJoin(next, h))
			case 2:
				h = wantFree(t, h, cabin, 1+next(5))
			case 3, 4:
				var ids []int
				h, ids = wantScanned(t, h, cabin)
				offers += len(ids)
				lost += was - len(h.Parties)
			case 5:
				h = wantAccept(t, h, id)
				sold += was - len(h.Parties)
			case 6:
				h = wantDecline(t, h, id)
			case 7:
				h = wantCancel(t, h, id)
			default:
				h = atTick(h, h.Now+next(3))
			}
			wantHouse(t, h)
		}
	}
	if offers < 300 || lost < 15 || sold < 40 {
		t.Errorf("%d offers are made, %d parties are removed and %d offers are accepted", offers, lost, sold)
	}
}

// wantOwnNums expects that a list shares no memory with states.
func wantOwnNums(t *testing.T, list []int, others ...impl.House) {
	t.Helper()
	for _, h := range others {
		cells := cellsOf(h)
		for at := range list[:cap(list)] {
			if cells[&list[:cap(list)][at]] > 0 {
				t.Errorf("%v shares memory with %+v", list, h)
				return
			}
		}
	}
}

// scansOf are the states that the functions of this layer make of a cabin.
func scansOf(h impl.House, cabin int) ([]impl.House, []int) {
	after, id := impl.Offer(h, cabin)
	full, ids := impl.Scan(h, cabin)
	return []impl.House{impl.Expire(h, cabin), after, full}, append([]int{id}, ids...)
}

// keptHouses have cabins with offers that have expired and with parties that get
// offers, and cabins with none of them.
func keptHouses() []impl.House {
	list := append(append(someHouses(), badHouses()...), sharingHouse(), needHouse(), brokenHouse(needHouse()), chainHouse(3))
	for seed := range 20 {
		list = append(list, scarceHouse(mixer(seed)))
	}
	return append(list, offersHouse([]int{2, -1, 0}, 14, 5, 6, 5), lateRow(0, 2, 3), lateRow(4, 2, 3), fitRow(9, 4, 4, 4))
}

// TestScanArgumentsAreKept covers the unused capacity of every slice, and the
// memory of the results.
func TestScanArgumentsAreKept(t *testing.T) {
	changed, same := 0, 0
	for _, h := range keptHouses() {
		room := roomyHouse(h)
		was := memoryOf(room)
		for cabin := -1; cabin <= len(h.Cabins); cabin++ {
			got, nums := scansOf(room, cabin)
			want, wantNums := scansOf(h, cabin)
			for i := range got {
				wantOwnMemory(t, got[i], room)
				if !houseEqual(got[i], want[i]) {
					t.Errorf("the capacity of %+v is read: %+v, want %+v", room, got[i], want[i])
				}
				if houseEqual(got[i], h) {
					same++
				} else {
					changed++
				}
			}
			full, ids := impl.Scan(room, cabin)
			wantOwnNums(t, ids, room, full)
			wantOwnNums(t, impl.DueIn(room, cabin), room)
			wantNext(t, room, cabin, impl.NextOffer(h, cabin))
			wantDueIn(t, room, cabin, impl.DueIn(h, cabin)...)
			if !slices.Equal(nums, wantNums) {
				t.Errorf("the capacity of %+v is read: %v, want %v", room, nums, wantNums)
			}
			if now := memoryOf(room); !reflect.DeepEqual(now, was) {
				t.Fatalf("the state %+v became %+v", was, now)
			}
		}
	}
	if changed < 80 || same < 500 {
		t.Errorf("%d results are changed and %d are not", changed, same)
	}
}

// TestScanResultsCanBeChanged writes to the results, which changes neither the
// argument nor the result of another call.
func TestScanResultsCanBeChanged(t *testing.T) {
	for _, h := range []impl.House{handHouse(), needHouse(), brokenHouse(needHouse()), chainHouse(2), newHouse(plainRules()), lateRow(0, 2, 3), fitRow(9, 4, 4, 1)} {
		kept := emptied(h)
		kept.Rules.Seats = slices.Clone(h.Rules.Seats)
		for cabin := -1; cabin <= len(h.Cabins); cabin++ {
			one, ids := scansOf(h, cabin)
			two, _ := scansOf(h, cabin)
			for _, got := range one {
				for _, spoil := range houseParts(got) {
					spoil()
				}
			}
			due := impl.DueIn(h, cabin)
			full, list := impl.Scan(h, cabin)
			dueWas := slices.Clone(due)
			spoilNums(due)
			spoilNums(list)
			again, idsAgain := scansOf(h, cabin)
			if !houseEqual(h, kept) || !slices.EqualFunc(two, again, houseEqual) || !slices.Equal(ids, idsAgain) || !houseEqual(full, again[2]) {
				t.Errorf("cabin %d of %+v: the results share memory", cabin, h)
			}
			if got := impl.DueIn(h, cabin); !slices.Equal(got, dueWas) {
				t.Errorf("DueIn(%+v, %d) = %v, want %v", h, cabin, got, dueWas)
			}
		}
	}
}

// TestScanOfSharedLists has an argument whose lists share memory.
func TestScanOfSharedLists(t *testing.T) {
	h := sharingHouse()
	for cabin := range 3 {
		for _, n := range []int{0, 1, 2} {
			step := h
			if n > 0 {
				step = wantJoin(t, wantFree(t, h, cabin, n), joinReq(8, cabin, -1, 1, 1))
			}
			list, _ := scansOf(h, cabin)
			more, _ := scansOf(step, cabin)
			for _, got := range append(list, more...) {
				wantOwnMemory(t, got, h)
				wantOwnMemory(t, got, step)
			}
			wantScanned(t, step, cabin)
		}
	}
	wantHouse(t, h)
}
