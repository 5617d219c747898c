package tests

import (
	"fmt"
	"math"
	"reflect"
	"slices"
	"testing"

	"loop.example/g00494/impl"
)

type reqField struct {
	name string
	of   func(*impl.Req) *int
}

func reqFields() []reqField {
	return []reqField{
		{"Id", func(q *impl.Req) *int { return &q.Id }},
		{"Cabin", func(q *impl.Req) *int { return &q.Cabin }},
		{"From", func(q *impl.Req) *int { return &q.From }},
		{"Size", func(q *impl.Req) *int { return &q.Size }},
		{"Tier", func(q *impl.Req) *int { return &q.Tier }},
	}
}

func withReqField(q impl.Req, f reqField, n int) impl.Req {
	*f.of(&q) = n
	return q
}

// usedBy names the fields that a kind of request uses.
func usedBy(kind int) []string {
	return map[int][]string{
		1: {"Id", "Cabin", "From", "Size", "Tier"},
		2: {"Id"},
		3: {"Cabin", "Size"},
		4: {"Id"},
		5: {"Id"},
		6: {},
		7: {"Id"},
	}[kind]
}

func joinReq(id, cabin, from, size, tier int) impl.Req {
	return impl.Req{Kind: 1, Id: id, Cabin: cabin, From: from, Size: size, Tier: tier}
}

func cancelReq(id int) impl.Req  { return impl.Req{Kind: 2, Id: id} }
func acceptReq(id int) impl.Req  { return impl.Req{Kind: 4, Id: id} }
func declineReq(id int) impl.Req { return impl.Req{Kind: 5, Id: id} }
func tickReq() impl.Req          { return impl.Req{Kind: 6} }
func pickReq(who int) impl.Req   { return impl.Req{Kind: 7, Id: who} }

func freeReq(cabin, size int) impl.Req { return impl.Req{Kind: 3, Cabin: cabin, Size: size} }

// formRight is the document's ReqOk, written out.
func formRight(q impl.Req) bool {
	if q.Kind < 1 || q.Kind > 7 {
		return false
	}
	for _, f := range reqFields() {
		least, most := 0, 0
		if slices.Contains(usedBy(q.Kind), f.name) {
			most = 9999
			if f.name == "From" {
				least = -1
			}
		}
		if n := *f.of(&q); n < least || n > most {
			return false
		}
	}
	return true
}

func wantReq(t *testing.T, q impl.Req, want bool) {
	t.Helper()
	if formRight(q) != want {
		t.Errorf("the test means that the form of %+v is %v", q, want)
	}
	if got := impl.ReqOk(q); got != want {
		t.Errorf("ReqOk(%+v) = %v, want %v", q, got, want)
	}
}

func isCabin(h impl.House, cabin int) bool { return cabin >= 0 && cabin < len(h.Cabins) }

// looseSeats is the number of seats that are sold and not tied; a cabin that
// there is not has none.
func looseSeats(h impl.House, cabin int) int {
	if !isCabin(h, cabin) {
		return 0
	}
	return h.Cabins[cabin].Seats.Sold - h.Cabins[cabin].Seats.Tied
}

// reasonsOf are all the reasons of the document's Verdict that hold, in its
// order; each is looked at whatever the others are.
func reasonsOf(h impl.House, q impl.Req) []int {
	var all []int
	add := func(code int, holds bool) {
		if holds {
			all = append(all, code)
		}
	}
	add(1, !impl.HouseOk(h))
	add(2, q.Kind < 1 || q.Kind > 7)
	add(3, !formRight(q))
	at := placeFound(h.Parties, q.Id)
	switch q.Kind {
	case 1:
		add(4, !isCabin(h, q.Cabin) || q.From != -1 && (!isCabin(h, q.From) || q.From == q.Cabin))
		add(5, q.Size < 1 || q.Size > h.Rules.Size)
		add(6, q.Tier >= h.Rules.Tiers)
		add(7, q.Id < 1 || q.Id > 999)
		add(8, at >= 0)
		add(9, countSum(h.Parties, q.Cabin) >= h.Rules.Room)
		add(10, q.From != -1 && looseSeats(h, q.From) < q.Size)
		add(11, h.Turn > 1000000)
	case 2:
		add(7, at < 0)
	case 3:
		add(4, !isCabin(h, q.Cabin))
		add(5, q.Size < 1 || q.Size > 60)
		add(12, looseSeats(h, q.Cabin) < q.Size)
	case 4, 5:
		add(7, at < 0)
		add(13, at >= 0 && h.Parties[at].State != 2)
		add(14, at >= 0 && h.Parties[at].State == 2 && h.Parties[at].Until <= h.Now)
	case 6:
		add(15, h.Now == 1000000)
	case 7:
		add(16, q.Id >= h.Rules.Crew)
		add(17, q.Id >= 0 && q.Id < len(h.Jobs) && h.Jobs[q.Id] == -1 && len(h.Todo) == 0)
	}
	return all
}

// wantVerdict is the first of the reasons, and also checks that they are the
// ones that the test means.
func wantVerdict(t *testing.T, h impl.House, q impl.Req, reasons ...int) {
	t.Helper()
	if found := reasonsOf(h, q); !slices.Equal(found, reasons) {
		t.Errorf("%+v is wrong for %v, the test means %v", q, found, reasons)
	}
	wantFirst(t, h, q)
}

func wantFirst(t *testing.T, h impl.House, q impl.Req) {
	t.Helper()
	want := 0
	if found := reasonsOf(h, q); len(found) > 0 {
		want = found[0]
	}
	if got := impl.Verdict(h, q); got != want {
		t.Errorf("Verdict(%+v, %+v) = %d, want %d", h, q, got, want)
	}
}

// needHouse is at tick 8, where the offers of parties 7, 8 and 9 are late.
// Cabin 0 has room for one party and 3 seats that are sold and not tied, cabin 1
// is full and has no such seat, and cabin 2 is empty and has one. Worker 0 has
// no job, and there is nothing to do.
func needHouse() impl.House {
	h := handHouse()
	h.Rules.Room, h.Now, h.Todo = 5, 8, nil
	h = remade(h, cabinParties()...)
	for at, l := range []impl.Ledger{ledger(20, 10, 3, 7, 4), ledger(30, 21, 8, 1, 1), ledger(40, 36, 0, 4, 3)} {
		h = withCabin(h, at, withLedger(h.Cabins[at], l))
	}
	return h
}

// atTurn and atTick are valid as long as the parties allow it.
func atTurn(h impl.House, turn int) impl.House {
	h.Turn = turn
	return h
}

func atTick(h impl.House, now int) impl.House {
	cabins := h.Cabins
	h.Now = now
	h = remade(h, h.Parties...)
	for at, c := range cabins {
		h.Cabins[at].Seats = c.Seats
	}
	return h
}

// brokenHouse is not valid, but no request looks at the reason.
func brokenHouse(h impl.House) impl.House {
	h.Jobs = append(slices.Clone(h.Jobs), -1)
	return h
}

// otherKinds are not valid.
func otherKinds() []int { return append(extremes(), -7, -1, 0, 8, 9, 99, 1<<32+1, -1<<32+1) }

func TestNeedHouseIsValid(t *testing.T) {
	h := needHouse()
	wantHouse(t, h)
	wantHouse(t, atTurn(h, 1000000))
	wantHouse(t, atTurn(h, 1000001))
	for _, now := range []int{7, 9, 10, 11, 1000000} {
		wantHouse(t, atTick(h, now))
	}
	wantHouse(t, brokenHouse(h), "jobs")
	if len(h.Parties) != 9 || countSum(h.Parties, 0) != 4 || countSum(h.Parties, 1) != 5 || countSum(h.Parties, 2) != 0 {
		t.Errorf("the parties are %+v", h.Parties)
	}
	if looseSeats(h, 0) != 3 || looseSeats(h, 1) != 0 || looseSeats(h, 2) != 1 {
		t.Errorf("the cabins are %+v", h.Cabins)
	}
}

// TestReqOkFields changes one field of a request whose other fields are at their
// least or greatest number.
func TestReqOkFields(t *testing.T) {
	for kind := 1; kind <= 7; kind++ {
		least, most := impl.Req{Kind: kind}, impl.Req{Kind: kind}
		for _, f := range reqFields() {
			if slices.Contains(usedBy(kind), f.name) {
				most = withReqField(most, f, 9999)
			}
		}
		if kind == 1 {
			least.From = -1
		}
		for _, q := range []impl.Req{least, most} {
			wantReq(t, q, true)
			for _, f := range reqFields() {
				used := slices.Contains(usedBy(kind), f.name)
				wantReq(t, withReqField(q, f, 0), true)
				wantReq(t, withReqField(q, f, -1), used && f.name == "From")
				for _, n := range []int{1, 2, 60, 999, 1000, 9998, 9999} {
					wantReq(t, withReqField(q, f, n), used)
				}
				for _, n := range append(extremes(), -9999, -3, -2, 10000, 10001, 1<<32, 1<<32+1, -1<<32+1) {
					wantReq(t, withReqField(q, f, n), false)
				}
			}
		}
	}
}

func TestReqOkKinds(t *testing.T) {
	for _, kind := range otherKinds() {
		wantReq(t, impl.Req{Kind: kind}, false)
		wantReq(t, impl.Req{Kind: kind, Id: 1}, false)
		wantReq(t, impl.Req{Kind: kind, Cabin: 1, Size: 1}, false)
		wantReq(t, joinReqOf(kind), false)
	}
	wantReq(t, impl.Req{}, false)
	for kind := -20; kind <= 20; kind++ {
		wantReq(t, impl.Req{Kind: kind}, kind >= 1 && kind <= 7)
		wantReq(t, impl.Req{Kind: kind, Id: 3}, kind == 1 || kind == 2 || kind == 4 || kind == 5 || kind == 7)
		wantReq(t, impl.Req{Kind: kind, Cabin: 3, Size: 1}, kind == 1 || kind == 3)
		wantReq(t, joinReqOf(kind), kind == 1)
	}
	if impl.RqJoin != 1 || impl.RqCancel != 2 || impl.RqFree != 3 || impl.RqAccept != 4 || impl.RqDecline != 5 || impl.RqTick != 6 || impl.RqPick != 7 || impl.MaxField != 9999 {
		t.Error("the kinds have other numbers")
	}
}

// joinReqOf has the fields of a RqJoin, of any kind.
func joinReqOf(kind int) impl.Req {
	q := joinReq(5, 1, -1, 2, 1)
	q.Kind = kind
	return q
}

// TestReqOkTwoFields has every two fields at every two edges.
func TestReqOkTwoFields(t *testing.T) {
	edges := append(extremes(), -2, -1, 0, 1, 9999, 10000)
	for kind := range 9 {
		for _, f := range reqFields() {
			for _, g := range reqFields() {
				for _, n := range edges {
					for _, m := range edges {
						q := withReqField(withReqField(impl.Req{Kind: kind}, f, n), g, m)
						wantReq(t, q, formRight(q))
					}
				}
			}
		}
	}
}

// fineRequests can all be performed in needHouse with a cabin to be scanned.
func fineRequests() []impl.Req {
	return []impl.Req{
		joinReq(10, 0, -1, 4, 2), joinReq(999, 2, 0, 3, 0), joinReq(10, 0, 2, 1, 1),
		cancelReq(1), cancelReq(7), freeReq(0, 3), freeReq(2, 1),
		acceptReq(2), acceptReq(3), declineReq(2), declineReq(3),
		tickReq(), pickReq(0), pickReq(1),
	}
}

func TestVerdictFine(t *testing.T) {
	h := needHouse()
	h.Todo = []int{1}
	for _, q := range fineRequests() {
		wantVerdict(t, h, q)
	}
}

// TestVerdictHouse has requests of every form.
func TestVerdictHouse(t *testing.T) {
	for _, h := range badHouses() {
		for _, q := range append(fineRequests(), impl.Req{}, impl.Req{Kind: 8}, impl.Req{Kind: -1, Id: -1}, joinReq(-1, -1, -2, -1, -1), tickReq(), freeReq(9, 99), pickReq(3), impl.Req{Kind: 6, Tier: 1}) {
			if got := impl.Verdict(h, q); got != 1 {
				t.Errorf("Verdict(%+v, %+v) = %d, want 1", h, q, got)
			}
		}
	}
	h := needHouse()
	h.Todo = []int{1}
	for _, q := range fineRequests() {
		wantVerdict(t, brokenHouse(h), q, 1)
	}
	wantVerdict(t, brokenHouse(h), impl.Req{Kind: 8}, 1, 2, 3)
	wantVerdict(t, impl.House{}, impl.Req{}, 1, 2, 3)
}

func TestVerdictKind(t *testing.T) {
	for _, h := range []impl.House{needHouse(), newHouse(plainRules()), atTurn(needHouse(), 1000001), atTick(needHouse(), 1000000)} {
		for _, kind := range otherKinds() {
			wantVerdict(t, h, impl.Req{Kind: kind}, 2, 3)
			wantVerdict(t, h, impl.Req{Kind: kind, Id: -1}, 2, 3)
			wantVerdict(t, h, impl.Req{Kind: kind, Id: 99999, Cabin: 77, From: -5, Size: 99, Tier: -1}, 2, 3)
			wantVerdict(t, h, joinReqOf(kind), 2, 3)
			wantVerdict(t, brokenHouse(h), joinReqOf(kind), 1, 2, 3)
		}
	}
}

// TestVerdictForm has forms that are wrong alone, and with other fields that are
// wrong as well.
func TestVerdictForm(t *testing.T) {
	h := needHouse()
	h.Todo = []int{1}
	for _, q := range fineRequests() {
		for _, f := range reqFields() {
			if slices.Contains(usedBy(q.Kind), f.name) {
				continue
			}
			for _, n := range append(extremes(), -2, -1, 1, 2, 9999, 10000) {
				wantVerdict(t, h, withReqField(q, f, n), 3)
			}
		}
	}
	wantVerdict(t, h, joinReq(10, 0, -1, 4, -1), 3)
	wantVerdict(t, h, joinReq(10, -1, -1, 4, 2), 3, 4)
	wantVerdict(t, h, joinReq(10, 10000, -1, 4, 2), 3, 4)
	wantVerdict(t, h, joinReq(10, 0, -2, 0, 2), 3, 4, 5)
	wantVerdict(t, h, joinReq(10, 0, -1, -1, 2), 3, 5)
	wantVerdict(t, h, joinReq(10, 0, -1, 10000, 2), 3, 5)
	wantVerdict(t, h, joinReq(10, 0, -1, 4, 10000), 3, 6)
	wantVerdict(t, h, joinReq(-1, 0, -1, 4, 2), 3, 7)
	wantVerdict(t, h, joinReq(10000, 0, -1, 4, 2), 3, 7)
	wantVerdict(t, h, joinReq(10000, 3, -1, 5, -1), 3, 4, 5, 7)
	wantVerdict(t, h, joinReq(math.MinInt, math.MinInt, math.MinInt, math.MinInt, math.MinInt), 3, 4, 5, 7)
	wantVerdict(t, h, joinReq(math.MaxInt, math.MaxInt, math.MaxInt, math.MaxInt, math.MaxInt), 3, 4, 5, 6, 7, 10)
	for _, id := range append(extremes(), -1, 10000) {
		wantVerdict(t, h, cancelReq(id), 3, 7)
		wantVerdict(t, h, acceptReq(id), 3, 7)
		wantVerdict(t, h, declineReq(id), 3, 7)
		if id < 0 {
			wantVerdict(t, h, pickReq(id), 3)
		} else {
			wantVerdict(t, h, pickReq(id), 3, 16)
		}
	}
	wantVerdict(t, h, freeReq(-1, 0), 3, 4, 5)
	wantVerdict(t, h, freeReq(10000, 0), 3, 4, 5)
	wantVerdict(t, h, freeReq(0, -1), 3, 5)
	wantVerdict(t, h, freeReq(0, 10000), 3, 5, 12)
	wantVerdict(t, h, freeReq(3, 10000), 3, 4, 5, 12)
}

func TestVerdictJoinCabin(t *testing.T) {
	for cabins := 1; cabins <= 4; cabins++ {
		h := newHouse(withSeats(greatestRules(), slices.Repeat([]int{30}, cabins)...))
		for cabin := range cabins + 3 {
			for from := -1; from < cabins+3; from++ {
				q := joinReq(4, cabin, from, 2, 1)
				right := cabin < cabins && (from == -1 || from < cabins && from != cabin)
				if right {
					wantVerdict(t, h, q)
				} else if from < cabins {
					wantVerdict(t, h, q, 4)
				} else {
					wantVerdict(t, h, q, 4, 10)
				}
			}
		}
		wantVerdict(t, h, joinReq(4, -1, -1, 2, 1), 3, 4)
		wantVerdict(t, h, joinReq(4, -1, 0, 2, 1), 3, 4)
		wantVerdict(t, h, joinReq(4, cabins-1, -2, 2, 1), 3, 4, 10)
		wantVerdict(t, h, joinReq(4, 9999, -1, 2, 1), 4)
		wantVerdict(t, h, joinReq(4, 0, 9999, 2, 1), 4, 10)
	}
}

func TestVerdictJoinSizeAndTier(t *testing.T) {
	for most := 1; most <= 6; most++ {
		for tiers := 1; tiers <= 5; tiers++ {
			r := cabinRules()
			r.Size, r.Tiers = most, tiers
			h := newHouse(r)
			for size := range 9 {
				for tier := range 7 {
					var reasons []int
					if size < 1 || size > most {
						reasons = append(reasons, 5)
					}
					if tier >= tiers {
						reasons = append(reasons, 6)
					}
					wantVerdict(t, h, joinReq(4, 1, -1, size, tier), reasons...)
					wantVerdict(t, h, joinReq(4, 1, 2, size, tier), reasons...)
				}
			}
			wantVerdict(t, h, joinReq(4, 1, -1, 9999, 0), 5)
			wantVerdict(t, h, joinReq(4, 1, -1, 1, 9999), 6)
		}
	}
}

func TestVerdictJoinId(t *testing.T) {
	h := needHouse()
	for id := range 1010 {
		for cabin := 0; cabin <= 2; cabin += 2 {
			switch q := joinReq(id, cabin, -1, 1, 1); {
			case id < 1 || id > 999:
				wantVerdict(t, h, q, 7)
			case id <= 9: // the parties of needHouse, in the same cabin and in another
				wantVerdict(t, h, q, 8)
			default:
				wantVerdict(t, h, q)
			}
		}
	}
	wantVerdict(t, h, joinReq(9999, 0, -1, 1, 1), 7)
	wantVerdict(t, newHouse(plainRules()), joinReq(1, 0, -1, 1, 1))
	wantVerdict(t, newHouse(plainRules()), joinReq(999, 0, -1, 1, 1))
	last := houseMade(cabinRules(), 0, 2, impl.Party{Id: 999, Cabin: 1, From: -1, Size: 1, Turn: 1, State: 1})
	wantVerdict(t, last, joinReq(999, 0, -1, 1, 1), 8)
	wantVerdict(t, last, joinReq(998, 0, -1, 1, 1))
}

// TestVerdictJoinRoom has cabins with fewer parties than there is room for, and
// with as many; some of them are offered, some wait.
func TestVerdictJoinRoom(t *testing.T) {
	for room := 1; room <= 10; room++ {
		r := withSeats(cabinRules(), 30, 30, 30)
		r.Room = room
		for cabin := range 3 {
			for n := range room + 1 {
				for _, waiting := range []int{0, n / 2, n} {
					h := houseMade(r, 0, 20, crowd(cabin, waiting, n)...)
					if n < room {
						wantVerdict(t, h, joinReq(4, cabin, -1, 1, 1))
					} else {
						wantVerdict(t, h, joinReq(4, cabin, -1, 1, 1), 9)
					}
					wantVerdict(t, h, joinReq(4, (cabin+1)%3, -1, 1, 1))
					wantVerdict(t, h, joinReq(4, (cabin+1)%3, cabin, 1, 1))
				}
			}
		}
	}
}

// TestVerdictJoinTied has seats that are sold and not tied, up to one fewer than
// the party gives back; others are sold and tied, or are not sold.
func TestVerdictJoinTied(t *testing.T) {
	r := withSeats(greatestRules(), 30, 30, 30)
	for tied := range 7 {
		var list []impl.Party
		if tied > 0 {
			list = append(list, impl.Party{Id: 7, Cabin: 1, From: 0, Size: tied, Turn: 1, State: 1 + tied%2, Until: 1})
		}
		h := houseMade(r, 0, 5, list...)
		for loose := range 9 {
			sold := tied + loose
			h = withCabin(h, 0, withLedger(h.Cabins[0], ledger(30, 30-sold, 0, sold, tied)))
			wantHouse(t, h)
			for size := 1; size <= 6; size++ {
				if loose < size {
					wantVerdict(t, h, joinReq(4, 2, 0, size, 0), 10)
				} else {
					wantVerdict(t, h, joinReq(4, 2, 0, size, 0))
				}
				wantVerdict(t, h, joinReq(4, 2, 1, size, 0))
				wantVerdict(t, h, joinReq(4, 0, -1, size, 0))
				wantVerdict(t, h, joinReq(4, 0, 1, size, 0))
			}
		}
	}
}

func TestVerdictJoinTurn(t *testing.T) {
	for _, h := range []impl.House{needHouse(), newHouse(cabinRules())} {
		for _, turn := range []int{10, 11, 999999, 1000000} {
			wantVerdict(t, atTurn(h, turn), joinReq(10, 0, -1, 1, 1))
		}
		wantVerdict(t, atTurn(h, 1000001), joinReq(10, 0, -1, 1, 1), 11)
		wantVerdict(t, atTurn(h, 1000002), joinReq(10, 0, -1, 1, 1), 1, 11)
		// Nobody else joins.
		wantVerdict(t, atTurn(h, 1000001), freeReq(0, 1))
		wantVerdict(t, atTurn(h, 1000001), tickReq())
	}
}

func TestVerdictCancel(t *testing.T) {
	h := needHouse()
	for id := range 1001 {
		if id >= 1 && id <= 9 {
			wantVerdict(t, h, cancelReq(id))
		} else {
			wantVerdict(t, h, cancelReq(id), 7)
		}
	}
	wantVerdict(t, h, cancelReq(9999), 7)
	wantVerdict(t, newHouse(plainRules()), cancelReq(1), 7)
	for _, now := range []int{7, 9, 10, 1000000} {
		for id := 1; id <= 9; id++ {
			wantVerdict(t, atTick(h, now), cancelReq(id)) // late offers too
		}
	}
}

func TestVerdictFree(t *testing.T) {
	h := newHouse(withSeats(cabinRules(), 60, 60, 60))
	for cabin := range 5 {
		for size := range 64 {
			var reasons []int
			if cabin > 2 {
				reasons = append(reasons, 4)
			}
			if size < 1 || size > 60 {
				reasons = append(reasons, 5)
			}
			if size > 60 || cabin > 2 && size > 0 {
				reasons = append(reasons, 12)
			}
			wantVerdict(t, h, freeReq(cabin, size), reasons...)
		}
	}
	wantVerdict(t, h, freeReq(9999, 9999), 4, 5, 12)
	for _, h := range someHouses() {
		for cabin := range h.Cabins {
			loose := looseSeats(h, cabin)
			for size := 1; size <= 60; size++ {
				if size <= loose {
					wantVerdict(t, h, freeReq(cabin, size))
				} else {
					wantVerdict(t, h, freeReq(cabin, size), 12)
				}
			}
		}
	}
}

func TestVerdictAnswer(t *testing.T) {
	for _, answer := range []func(int) impl.Req{acceptReq, declineReq} {
		for _, now := range []int{7, 8, 9, 10, 11, 12, 50, 1000000} {
			h := atTick(needHouse(), now)
			for _, p := range h.Parties {
				switch {
				case p.State == 1:
					wantVerdict(t, h, answer(p.Id), 13)
				case p.Until <= now:
					wantVerdict(t, h, answer(p.Id), 14)
				default:
					wantVerdict(t, h, answer(p.Id))
				}
			}
			for _, id := range []int{0, 10, 11, 999, 1000, 9999} {
				wantVerdict(t, h, answer(id), 7)
			}
		}
		wantVerdict(t, newHouse(plainRules()), answer(1), 7)
	}
}

// TestVerdictAnswerTicks has each tick before the one at which the offer
// expires, that tick, and those after it.
func TestVerdictAnswerTicks(t *testing.T) {
	for _, r := range []impl.Rules{leastRules(), cabinRules(), greatestRules()} {
		for _, until := range []int{1, 2, 9, 500, 999999, 1000000, 1000000 + r.Window} {
			for now := max(until-r.Window, 0); now <= min(until+12, 1000000); now++ {
				p := impl.Party{Id: 5, Cabin: 0, From: -1, Size: 1, Turn: 1, State: 2, Until: until}
				h := houseMade(r, now, 2, p)
				wantHouse(t, h)
				for _, q := range []impl.Req{acceptReq(5), declineReq(5)} {
					if now < until {
						wantVerdict(t, h, q)
					} else {
						wantVerdict(t, h, q, 14)
					}
				}
				p.State, p.Until = 1, min(until, now+r.Rest)
				h = houseMade(r, now, 2, p)
				wantVerdict(t, h, acceptReq(5), 13)
				wantVerdict(t, h, declineReq(5), 13)
			}
		}
	}
}

func TestVerdictTick(t *testing.T) {
	for _, h := range []impl.House{needHouse(), newHouse(plainRules()), newHouse(greatestRules())} {
		for _, now := range []int{11, 12, 1000, 999998, 999999} {
			wantVerdict(t, atTick(h, now), tickReq())
		}
		wantVerdict(t, atTick(h, 1000000), tickReq(), 15)
		h.Now = 1000001
		wantVerdict(t, h, tickReq(), 1)
	}
	wantVerdict(t, newHouse(plainRules()), tickReq())
}

func TestVerdictPick(t *testing.T) {
	for crew := 1; crew <= 3; crew++ {
		r := cabinRules()
		r.Crew = crew
		for who := range 6 {
			for job := -1; job <= 2; job++ {
				for _, todo := range [][]int{nil, {}, {0}, {2}, {1, 0, 2}} {
					h := newHouse(r)
					h.Todo = todo
					if who >= crew {
						wantVerdict(t, h, pickReq(who), 16)
						continue
					}
					for other := -1; other <= 2; other++ {
						h.Jobs = slices.Repeat([]int{other}, crew)
						h.Jobs[who] = job
						if job == -1 && len(todo) == 0 {
							wantVerdict(t, h, pickReq(who), 17)
						} else {
							wantVerdict(t, h, pickReq(who))
						}
					}
				}
			}
		}
		wantVerdict(t, newHouse(r), pickReq(9999), 16)
	}
}

// TestEveryTwoReasons has, for every two reasons of one kind that can hold
// together, a state and a request for which these two hold and no others.
func TestEveryTwoReasons(t *testing.T) {
	h, full := needHouse(), atTurn(needHouse(), 1000001)
	last := atTick(h, 1000000)
	bad, badFull, badLast := brokenHouse(h), brokenHouse(full), brokenHouse(last)
	form := func(q impl.Req) impl.Req { return withReqField(q, reqFields()[4], -1) }
	for _, c := range []struct {
		h       impl.House
		q       impl.Req
		reasons []int
	}{
		{bad, form(joinReq(10, 0, -1, 1, 0)), []int{1, 3}},
		{bad, joinReq(10, 3, -1, 1, 0), []int{1, 4}},
		{bad, joinReq(10, 0, -1, 5, 0), []int{1, 5}},
		{bad, joinReq(10, 0, -1, 1, 3), []int{1, 6}},
		{bad, joinReq(0, 0, -1, 1, 0), []int{1, 7}},
		{bad, joinReq(2, 0, -1, 1, 0), []int{1, 8}},
		{bad, joinReq(10, 1, -1, 1, 0), []int{1, 9}},
		{bad, joinReq(10, 0, 2, 2, 0), []int{1, 10}},
		{badFull, joinReq(10, 0, -1, 1, 0), []int{1, 11}},
		{h, form(joinReq(10, 3, -1, 1, 0)), []int{3, 4}},
		{h, form(joinReq(10, 0, -1, 5, 0)), []int{3, 5}},
		{h, joinReq(10, 0, -1, 1, 10000), []int{3, 6}},
		{h, form(joinReq(0, 0, -1, 1, 0)), []int{3, 7}},
		{h, form(joinReq(2, 0, -1, 1, 0)), []int{3, 8}},
		{h, form(joinReq(10, 1, -1, 1, 0)), []int{3, 9}},
		{h, form(joinReq(10, 0, 2, 2, 0)), []int{3, 10}},
		{full, form(joinReq(10, 0, -1, 1, 0)), []int{3, 11}},
		{h, joinReq(10, 0, 0, 0, 0), []int{4, 5}},
		{h, joinReq(10, 3, -1, 1, 3), []int{4, 6}},
		{h, joinReq(0, 3, -1, 1, 0), []int{4, 7}},
		{h, joinReq(2, 3, -1, 1, 0), []int{4, 8}},
		{h, joinReq(10, 1, 1, 0, 0), []int{4, 5, 9}},
		{h, joinReq(10, 0, 0, 4, 0), []int{4, 10}},
		{h, joinReq(10, 0, 3, 1, 0), []int{4, 10}},
		{full, joinReq(10, 3, -1, 1, 0), []int{4, 11}},
		{h, joinReq(10, 0, -1, 0, 3), []int{5, 6}},
		{h, joinReq(1000, 0, -1, 5, 0), []int{5, 7}},
		{h, joinReq(9, 0, -1, 5, 0), []int{5, 8}},
		{h, joinReq(10, 1, -1, 0, 0), []int{5, 9}},
		{h, joinReq(10, 0, 2, 5, 0), []int{5, 10}},
		{full, joinReq(10, 0, -1, 0, 0), []int{5, 11}},
		{h, joinReq(0, 0, -1, 1, 3), []int{6, 7}},
		{h, joinReq(1, 0, -1, 1, 3), []int{6, 8}},
		{h, joinReq(10, 1, -1, 1, 3), []int{6, 9}},
		{h, joinReq(10, 0, 2, 2, 3), []int{6, 10}},
		{full, joinReq(10, 0, -1, 1, 3), []int{6, 11}},
		{h, joinReq(0, 1, -1, 1, 0), []int{7, 9}},
		{h, joinReq(1000, 0, 2, 2, 0), []int{7, 10}},
		{full, joinReq(1000, 0, -1, 1, 0), []int{7, 11}},
		{h, joinReq(9, 1, -1, 1, 0), []int{8, 9}},
		{h, joinReq(9, 0, 2, 2, 0), []int{8, 10}},
		{full, joinReq(9, 0, -1, 1, 0), []int{8, 11}},
		{h, joinReq(10, 1, 2, 2, 0), []int{9, 10}},
		{full, joinReq(10, 1, -1, 1, 0), []int{9, 11}},
		{full, joinReq(10, 0, 2, 2, 0), []int{10, 11}},

		{bad, form(cancelReq(2)), []int{1, 3}},
		{bad, cancelReq(10), []int{1, 7}},
		{h, form(cancelReq(10)), []int{3, 7}},

		{bad, form(freeReq(0, 1)), []int{1, 3}},
		{bad, freeReq(3, 0), []int{1, 4, 5}},
		{bad, freeReq(0, 0), []int{1, 5}},
		{bad, freeReq(0, 4), []int{1, 12}},
		{h, form(freeReq(3, 1)), []int{3, 4, 12}},
		{h, form(freeReq(0, 0)), []int{3, 5}},
		{h, form(freeReq(0, 4)), []int{3, 12}},
		{h, freeReq(3, 0), []int{4, 5}},
		{h, freeReq(3, 1), []int{4, 12}},
		{h, freeReq(0, 61), []int{5, 12}},

		{bad, form(acceptReq(2)), []int{1, 3}},
		{bad, acceptReq(10), []int{1, 7}},
		{bad, acceptReq(4), []int{1, 13}},
		{bad, acceptReq(7), []int{1, 14}},
		{h, form(acceptReq(10)), []int{3, 7}},
		{h, form(acceptReq(4)), []int{3, 13}},
		{h, form(acceptReq(7)), []int{3, 14}},
		{bad, form(declineReq(2)), []int{1, 3}},
		{bad, declineReq(10), []int{1, 7}},
		{bad, declineReq(4), []int{1, 13}},
		{bad, declineReq(7), []int{1, 14}},
		{h, form(declineReq(10)), []int{3, 7}},
		{h, form(declineReq(4)), []int{3, 13}},
		{h, form(declineReq(7)), []int{3, 14}},

		{bad, form(tickReq()), []int{1, 3}},
		{badLast, tickReq(), []int{1, 15}},
		{last, form(tickReq()), []int{3, 15}},

		{bad, form(pickReq(1)), []int{1, 3}},
		{bad, pickReq(3), []int{1, 16}},
		{bad, pickReq(0), []int{1, 17}},
		{h, form(pickReq(2)), []int{3, 16}},
		{h, form(pickReq(0)), []int{3, 17}},

		{h, impl.Req{Kind: 8}, []int{2, 3}},
		{bad, impl.Req{Kind: 8}, []int{1, 2, 3}},
	} {
		wantVerdict(t, c.h, c.q, c.reasons...)
	}
	// A full cabin that the party would also leave, with seats to give back.
	loose := withCabin(h, 1, withLedger(h.Cabins[1], ledger(30, 0, 8, 22, 1)))
	wantHouse(t, loose)
	wantVerdict(t, loose, joinReq(10, 1, 1, 1, 0), 4, 9)
	wantVerdict(t, brokenHouse(loose), joinReq(10, 1, 1, 1, 0), 1, 4, 9)
}

// TestVerdictOfAllFields mixes fields at their edges, and counts every two
// reasons that hold together.
func TestVerdictOfAllFields(t *testing.T) {
	h := needHouse()
	houses := []impl.House{h, atTurn(h, 1000001), brokenHouse(h), atTurn(brokenHouse(h), 1000002)}
	found := map[string]int{}
	for _, h := range houses {
		for _, id := range []int{-1, 0, 3, 10, 1000} {
			for cabin := -1; cabin <= 3; cabin++ {
				for from := -2; from <= 3; from++ {
					for _, size := range []int{0, 1, 4, 5} {
						for _, tier := range []int{-1, 2, 3} {
							q := joinReq(id, cabin, from, size, tier)
							wantFirst(t, h, q)
							reasons := reasonsOf(h, q)
							for i, one := range reasons {
								for _, two := range reasons[i+1:] {
									found[fmt.Sprint(one, two)]++
								}
							}
						}
					}
				}
			}
		}
	}
	codes := []int{1, 3, 4, 5, 6, 7, 8, 9, 10, 11}
	for i, one := range codes {
		for _, two := range codes[i+1:] {
			// An Id that is not valid is not there.
			if (one != 7 || two != 8) && found[fmt.Sprint(one, two)] < 20 {
				t.Errorf("the reasons %d and %d hold together %d times", one, two, found[fmt.Sprint(one, two)])
			}
		}
	}
}

// tightHouse is a random one with little room, and with few seats that are sold
// and not tied.
func tightHouse(next func(int) int) impl.House {
	h := randomHouse(next)
	h.Rules.Room = 1
	for at, c := range h.Cabins {
		h.Rules.Room = max(h.Rules.Room, countSum(h.Parties, at))
		l := c.Seats
		sold := l.Tied + next(min(l.Free+l.Sold-l.Tied, 5)+1)
		h.Cabins[at] = withLedger(c, ledger(l.Total, l.Total-l.Held-sold, l.Held, sold, l.Tied))
	}
	return h
}

// TestRandomVerdicts has requests that are near the ones that can be performed.
func TestRandomVerdicts(t *testing.T) {
	seen := map[int]int{}
	for seed := range 250 {
		next := mixer(seed)
		h := tightHouse(next)
		nums := []int{-2, -1, 0, 1, 2, 3, 4, 5, 6, 60, 61, 999, 1000, 9999, 10000}
		wantHouse(t, h)
		for range 150 {
			q := impl.Req{Kind: next(9)}
			for _, f := range reqFields() {
				if slices.Contains(usedBy(q.Kind), f.name) || next(12) == 0 {
					*f.of(&q) = next(6)
				}
				if next(10) == 0 {
					*f.of(&q) = nums[next(len(nums))]
				}
			}
			if len(h.Parties) > 0 && q.Kind != 1 && q.Id != 0 && next(2) == 0 {
				q.Id = h.Parties[next(len(h.Parties))].Id
			}
			if q.Kind == 1 && next(3) > 0 {
				q = joinReq(1+next(999), next(len(h.Cabins)), next(len(h.Cabins)+1)-1, 1+next(h.Rules.Size), next(h.Rules.Tiers))
				if len(h.Parties) > 0 && next(6) == 0 {
					q.Id = h.Parties[next(len(h.Parties))].Id
				}
			}
			wantFirst(t, h, q)
			seen[impl.Verdict(h, q)]++
		}
	}
	for _, code := range []int{0, 2, 3, 4, 5, 6, 7, 8, 9, 10, 12, 13, 14, 15, 16, 17} {
		if seen[code] < 5 {
			t.Errorf("the code %d is seen %d times", code, seen[code])
		}
	}
}

func TestCodeWord(t *testing.T) {
	words := []string{"done", "house", "kind", "form", "cabin", "size", "tier", "id", "there", "full", "tied", "turn", "seats", "offer", "late", "clock", "crew", "idle"}
	for code, want := range words {
		if got := impl.CodeWord(code); got != want {
			t.Errorf("CodeWord(%d) = %q, want %q", code, got, want)
		}
	}
	for _, code := range append(extremes(), -100, -2, -1, 18, 19, 20, 21, 100, 255, 256, 1<<32, 1<<32+1, -1<<32+1) {
		if got := impl.CodeWord(code); got != "?" {
			t.Errorf("CodeWord(%d) = %q, want ?", code, got)
		}
	}
	codes := []int{
		impl.EdHouse, impl.EdKind, impl.EdForm, impl.EdCabin, impl.EdSize, impl.EdTier, impl.EdId, impl.EdThere, impl.EdFull,
		impl.EdTied, impl.EdTurn, impl.EdSeats, impl.EdOffer, impl.EdLate, impl.EdClock, impl.EdCrew, impl.EdIdle,
	}
	for i, code := range codes {
		if code != i+1 {
			t.Errorf("the code of %q is %d", words[i+1], code)
		}
	}
}

func wantHold(t *testing.T, h impl.House, cabin, size int, want bool) {
	t.Helper()
	if got := impl.CanHold(h, cabin, size); got != want {
		t.Errorf("CanHold(%+v, %d, %d) = %v, want %v", h, cabin, size, got, want)
	}
}

func TestCanHold(t *testing.T) {
	wrong := append(extremes(), -1<<32, -60, -2, -1)
	for _, h := range someHouses() {
		for cabin, c := range h.Cabins {
			for size := -2; size <= 63; size++ {
				wantHold(t, h, cabin, size, size >= 1 && size <= c.Seats.Free)
				wantHold(t, brokenHouse(h), cabin, size, false)
			}
			for _, size := range append(wrong, 1<<32, 1<<32+1) {
				wantHold(t, h, cabin, size, false)
			}
		}
		for size := -1; size <= 3; size++ {
			for _, cabin := range append(wrong, len(h.Cabins), len(h.Cabins)+1, 1<<32) {
				wantHold(t, h, cabin, size, false)
			}
		}
	}
	for _, h := range badHouses() {
		for cabin := -1; cabin <= 4; cabin++ {
			for _, size := range []int{-1, 0, 1, 2} {
				wantHold(t, h, cabin, size, false)
			}
		}
	}
	h := newHouse(cabinRules()) // all seats are sold
	for cabin := range 3 {
		for size := -1; size <= 40; size++ {
			wantHold(t, h, cabin, size, false)
		}
	}
	for free := range 61 {
		h := newHouse(withSeats(cabinRules(), 60, 60))
		h = withCabin(h, 1, withLedger(h.Cabins[1], ledger(60, free, 0, 60-free, 0)))
		for size := 1; size <= 61; size++ {
			wantHold(t, h, 1, size, size <= free)
			wantHold(t, h, 0, size, false)
		}
	}
}

// TestNeedArgumentsAreKept covers the unused capacity of every slice, whose
// content would change the verdict.
func TestNeedArgumentsAreKept(t *testing.T) {
	for _, h := range append(someHouses(), badHouses()...) {
		room := roomyHouse(h)
		was := memoryOf(room)
		for _, q := range append(fineRequests(), impl.Req{}, impl.Req{Kind: 8}, joinReq(10, 3, -1, 1, 0), joinReq(10, 0, 3, 1, 0), freeReq(3, 1), pickReq(2), acceptReq(4)) {
			if got, want := impl.Verdict(room, q), impl.Verdict(h, q); got != want {
				t.Errorf("Verdict(%+v, %+v) = %d with more capacity, want %d", h, q, got, want)
			}
		}
		for cabin := -1; cabin <= 4; cabin++ {
			wantHold(t, room, cabin, 1, impl.CanHold(h, cabin, 1))
		}
		if now := memoryOf(room); !reflect.DeepEqual(now, was) {
			t.Errorf("the state %+v became %+v", was, now)
		}
	}
}

// TestNeedsNeverPanic has fields that are no index of anything.
func TestNeedsNeverPanic(t *testing.T) {
	edges := append(extremes(), -2, -1, 0, 1, 2, 3, 4, 9999, 10000)
	for _, h := range append(badHouses()[:20], impl.House{}, needHouse(), newHouse(leastRules()), newHouse(greatestRules())) {
		for kind := range 9 {
			for _, n := range edges {
				for _, f := range reqFields() {
					wantFirst(t, h, withReqField(impl.Req{Kind: kind}, f, n))
				}
				wantFirst(t, h, impl.Req{Kind: kind, Id: n, Cabin: n, From: n, Size: n, Tier: n})
				wantFirst(t, h, impl.Req{Kind: n, Id: n, Cabin: n, From: n, Size: n, Tier: n})
			}
		}
	}
}
