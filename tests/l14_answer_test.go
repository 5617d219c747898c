package tests

import (
	"reflect"
	"slices"
	"testing"

	"loop.example/g00494/impl"
)

// freed is the state after a RqFree that can be performed, written out.
func freed(h impl.House, cabin, n int) impl.House {
	h = counted(h, cabin, n, 0, -n, 0)
	h.Todo = todoWith(h.Todo, cabin)
	return h
}

// withdrawn has neither the pin of a party nor its held seats.
func withdrawn(h impl.House, p impl.Party) impl.House {
	c := h.Cabins[p.Cabin]
	c.Wheel = withoutPin(c.Wheel, pin(p.Until, p.Id))
	return counted(withCabin(h, p.Cabin, c), p.Cabin, 0, -p.Size, 0, 0)
}

// accepted is the state after a RqAccept that can be performed, written out.
func accepted(h impl.House, id int) impl.House {
	p := h.Parties[placeFound(h.Parties, id)]
	h = counted(withdrawn(h, p), p.Cabin, 0, 0, p.Size, 0)
	h.Parties = cutFrom(h.Parties, id)
	if p.From == -1 {
		return h
	}
	h = counted(h, p.From, p.Size, 0, -p.Size, -p.Size)
	h.Todo = todoWith(h.Todo, p.From)
	return h
}

// declined is the state after a RqDecline that can be performed, written out.
func declined(h impl.House, id int) impl.House {
	p := h.Parties[placeFound(h.Parties, id)]
	h = counted(withdrawn(h, p), p.Cabin, p.Size, 0, 0, 0)
	h.Todo = todoWith(h.Todo, p.Cabin)
	if p.Asked+1 == h.Rules.Tries {
		h.Parties = cutFrom(h.Parties, id)
		return counted(h, p.From, 0, 0, 0, -p.Size)
	}
	p.Asked, p.State, p.Until = p.Asked+1, 1, h.Now+h.Rules.Rest
	h.Parties = putInto(h.Parties, p)
	return withEntry(h, p)
}

// withEntry has the entry of a party ahead of the first one that is worse.
func withEntry(h impl.House, p impl.Party) impl.House {
	c := h.Cabins[p.Cabin]
	e := impl.Entry{Level: levelAfter(h.Rules, p.Tier, h.Now-p.Since), Turn: p.Turn, Id: p.Id, Size: p.Size}
	at := 0
	for at < len(c.Row) && (c.Row[at].Level < e.Level || c.Row[at].Level == e.Level && c.Row[at].Turn < e.Turn) {
		at++
	}
	return withCabin(h, p.Cabin, withRow(c, slices.Insert(slices.Clone(c.Row), at, e)...))
}

// offered is the state after a party that waits has got an offer, written out.
func offered(h impl.House, id int) impl.House {
	p := h.Parties[placeFound(h.Parties, id)]
	p.State, p.Until = 2, h.Now+h.Rules.Window
	h.Parties = putInto(h.Parties, p)
	c := h.Cabins[p.Cabin]
	c = withRow(c, withoutEntry(c.Row, id)...)
	c.Wheel = wheel(append(allPins(c.Wheel), pin(p.Until, id))...)
	return counted(withCabin(h, p.Cabin, c), p.Cabin, -p.Size, p.Size, 0, 0)
}

// wantAnswered returns the state that the program has after a request.
func wantAnswered(t *testing.T, what string, h impl.House, q impl.Req, got impl.House, code int, after func() impl.House) impl.House {
	t.Helper()
	want, wantCode := h, firstReason(h, q)
	if wantCode == 0 {
		want = after()
		wantHouse(t, got)
		wantTotals(t, h, got)
	}
	wantStep(t, what, h, q, got, code, want, wantCode)
	return got
}

// wantTotals expects that in each cabin the seats add up to what they did.
func wantTotals(t *testing.T, h, got impl.House) {
	t.Helper()
	sums := func(h impl.House) []int {
		var list []int
		for _, c := range h.Cabins {
			list = append(list, c.Seats.Free+c.Seats.Held+c.Seats.Sold)
		}
		return list
	}
	if !slices.Equal(sums(h), sums(got)) || !slices.Equal(sums(h), h.Rules.Seats) {
		t.Errorf("the sums of %+v are %v, and before %v", got.Cabins, sums(got), sums(h))
	}
}

func wantFree(t *testing.T, h impl.House, cabin, n int) impl.House {
	t.Helper()
	got, code := impl.FreeSeats(h, cabin, n)
	return wantAnswered(t, "FreeSeats", h, freeReq(cabin, n), got, code, func() impl.House { return freed(h, cabin, n) })
}

func wantAccept(t *testing.T, h impl.House, id int) impl.House {
	t.Helper()
	got, code := impl.Accept(h, id)
	return wantAnswered(t, "Accept", h, acceptReq(id), got, code, func() impl.House { return accepted(h, id) })
}

func wantDecline(t *testing.T, h impl.House, id int) impl.House {
	t.Helper()
	got, code := impl.Decline(h, id)
	return wantAnswered(t, "Decline", h, declineReq(id), got, code, func() impl.House { return declined(h, id) })
}

// answerOf performs a request of this layer.
func answerOf(h impl.House, q impl.Req) (impl.House, int) {
	switch q.Kind {
	case 3:
		return impl.FreeSeats(h, q.Cabin, q.Size)
	case 4:
		return impl.Accept(h, q.Id)
	default:
		return impl.Decline(h, q.Id)
	}
}

// wantNoAnswer expects the state that went in and the first of the reasons,
// which are all that hold.
func wantNoAnswer(t *testing.T, h impl.House, q impl.Req, reasons ...int) {
	t.Helper()
	wantVerdict(t, h, q, reasons...)
	got, code := answerOf(h, q)
	wantStep(t, "the request", h, q, got, code, h, reasons[0])
}

// wantNoAnswers is about both answers of one party.
func wantNoAnswers(t *testing.T, h impl.House, id int, reasons ...int) {
	t.Helper()
	wantNoAnswer(t, h, acceptReq(id), reasons...)
	wantNoAnswer(t, h, declineReq(id), reasons...)
}

func wantOffer(t *testing.T, h impl.House, id int, want impl.Pin) {
	t.Helper()
	if got, ok := impl.OfferOf(h, id); !ok || got != want {
		t.Errorf("OfferOf(%+v, %d) = %+v, %v, want %+v, true", h, id, got, ok, want)
	}
}

func wantNoOffer(t *testing.T, h impl.House, id int) {
	t.Helper()
	if got, ok := impl.OfferOf(h, id); ok || got != (impl.Pin{}) {
		t.Errorf("OfferOf(%+v, %d) = %+v, %v, want the zero Pin and false", h, id, got, ok)
	}
}

// TestAcceptByHand has a party with seats in cabin 0, which is to be scanned
// already, and one with seats in cabin 1, which is not.
func TestAcceptByHand(t *testing.T) {
	h := handHouse()
	got, code := impl.Accept(h, 2)
	want := handHouse()
	want.Parties = slices.Delete(want.Parties, 1, 2)
	want.Cabins[0].Seats = ledger(20, 8, 3, 9, 1)
	want.Cabins[1].Seats = ledger(30, 0, 5, 25, 1)
	want.Cabins[1].Wheel = wheel(pin(8, 7), pin(8, 9))
	wantStep(t, "Accept", h, acceptReq(2), got, code, want, 0)
	wantHouse(t, got)

	got, code = impl.Accept(h, 3)
	want = handHouse()
	want.Parties = slices.Delete(want.Parties, 2, 3)
	want.Cabins[0].Seats = ledger(20, 5, 2, 13, 4)
	want.Cabins[0].Wheel = wheel(pin(8, 8))
	want.Cabins[1].Seats = ledger(30, 1, 8, 21, 0)
	want.Todo = []int{2, 0, 1}
	wantStep(t, "Accept", h, acceptReq(3), got, code, want, 0)
	wantHouse(t, got)

	got, code = impl.Accept(h, 7)
	want = handHouse()
	want.Parties = slices.Delete(want.Parties, 6, 7)
	want.Cabins[1].Seats = ledger(30, 0, 4, 26, 1)
	want.Cabins[1].Wheel = wheel(pin(8, 9), pin(10, 2))
	wantStep(t, "Accept", h, acceptReq(7), got, code, want, 0)
	wantHouse(t, got)
}

// TestDeclineByHand has parties that come first and last in their rows, and one
// whose last try it was.
func TestDeclineByHand(t *testing.T) {
	h := handHouse()
	got, code := impl.Decline(h, 3)
	want := handHouse()
	want.Parties[2] = impl.Party{Id: 3, Cabin: 0, From: 1, Size: 1, Tier: 0, Since: 5, Turn: 6, State: 1, Until: 9, Asked: 1}
	want.Cabins[0] = impl.Cabin{
		Seats: ledger(20, 6, 2, 12, 4),
		Row:   []impl.Entry{{Level: 0, Turn: 6, Id: 3, Size: 1}, {Level: 1, Turn: 3, Id: 5, Size: 2}, {Level: 2, Turn: 8, Id: 1, Size: 4}},
		Wheel: wheel(pin(8, 8)),
	}
	wantStep(t, "Decline", h, declineReq(3), got, code, want, 0)
	wantHouse(t, got)

	got, code = impl.Decline(h, 9)
	want = handHouse()
	want.Parties[8] = impl.Party{Id: 9, Cabin: 1, From: 0, Size: 1, Tier: 2, Since: 7, Turn: 9, State: 1, Until: 9, Asked: 1}
	want.Cabins[1] = impl.Cabin{
		Seats: ledger(30, 1, 7, 22, 1),
		Row:   []impl.Entry{{Level: 1, Turn: 4, Id: 4, Size: 2}, {Level: 1, Turn: 5, Id: 6, Size: 1}, {Level: 2, Turn: 9, Id: 9, Size: 1}},
		Wheel: wheel(pin(8, 7), pin(10, 2)),
	}
	want.Todo = []int{2, 0, 1}
	wantStep(t, "Decline", h, declineReq(9), got, code, want, 0)
	wantHouse(t, got)

	got, code = impl.Decline(h, 7)
	want = handHouse()
	want.Parties = slices.Delete(want.Parties, 6, 7)
	want.Cabins[1].Seats = ledger(30, 4, 4, 22, 1)
	want.Cabins[1].Wheel = wheel(pin(8, 9), pin(10, 2))
	want.Todo = []int{2, 0, 1}
	wantStep(t, "Decline", h, declineReq(7), got, code, want, 0)
	wantHouse(t, got)
}

func TestFreeSeatsByHand(t *testing.T) {
	h := handHouse()
	got, code := impl.FreeSeats(h, 1, 21)
	want := handHouse()
	want.Cabins[1].Seats = ledger(30, 21, 8, 1, 1)
	want.Todo = []int{2, 0, 1}
	wantStep(t, "FreeSeats", h, freeReq(1, 21), got, code, want, 0)
	wantHouse(t, got)

	got, code = impl.FreeSeats(h, 0, 1)
	want = handHouse()
	want.Cabins[0].Seats = ledger(20, 6, 3, 11, 4)
	wantStep(t, "FreeSeats", h, freeReq(0, 1), got, code, want, 0)
	wantHouse(t, got)
	wantNoAnswer(t, h, freeReq(0, 9), 12)
}

func TestOfferOfByHand(t *testing.T) {
	h := handHouse()
	for id, at := range map[int]int{2: 10, 3: 9, 7: 8, 8: 8, 9: 8} {
		wantOffer(t, h, id, pin(at, id))
	}
	for _, id := range []int{1, 4, 5, 6, 0, 10, -1} {
		wantNoOffer(t, h, id)
	}
}

// wantAnswers has both answers of one party at one tick: before Until they are
// performed, and from there on they sell nothing.
func wantAnswers(t *testing.T, h impl.House, p impl.Party) {
	t.Helper()
	if h.Now >= p.Until {
		wantNoAnswers(t, h, p.Id, 14)
		return
	}
	wantSold(t, h, wantAccept(t, h, p.Id), p)
	after := wantDecline(t, h, p.Id)
	if at := placeFound(after.Parties, p.Id); at < 0 {
		wantNoAnswers(t, after, p.Id, 7)
	} else {
		wantNoAnswers(t, after, p.Id, 13)
	}
}

// wantSold expects that the seats of a party are sold once.
func wantSold(t *testing.T, h, got impl.House, p impl.Party) {
	t.Helper()
	was, is := h.Cabins[p.Cabin].Seats, got.Cabins[p.Cabin].Seats
	if is != ledger(was.Total, was.Free, was.Held-p.Size, was.Sold+p.Size, was.Tied) {
		t.Errorf("Accept of %+v turns the counts %+v into %+v", p, was, is)
	}
	if placeFound(got.Parties, p.Id) >= 0 || slices.Contains(allPins(got.Cabins[p.Cabin].Wheel), pin(p.Until, p.Id)) {
		t.Errorf("Accept of %+v leaves it in %+v", p, got)
	}
	wantNoAnswers(t, got, p.Id, 7)
	if again := wantAccept(t, got, p.Id); again.Cabins[p.Cabin].Seats != is {
		t.Errorf("a second Accept of %+v turns the counts %+v into %+v", p, is, again.Cabins[p.Cabin].Seats)
	}
}

// TestLateAnswersAreRejected is P14: it has each offer of many states at ticks
// around its Until.
func TestLateAnswersAreRejected(t *testing.T) {
	early, late := map[int]int{}, map[int]int{}
	for seed := range 400 {
		next := mixer(seed)
		h := randomHouse(next)
		if seed%4 == 0 {
			h = tightHouse(next)
		}
		for _, p := range h.Parties {
			if p.State != 2 {
				continue
			}
			for _, now := range []int{p.Until - 8, p.Until - 2, p.Until - 1, p.Until, p.Until + 1, p.Until + 2, p.Until + 50, 999999, 1000000} {
				at := atTick(h, now)
				if now < 0 || len(houseFaults(at)) > 0 {
					continue
				}
				wantAnswers(t, at, p)
				if now < p.Until {
					early[p.Until-now]++
				} else {
					late[min(now-p.Until, 3)]++
				}
			}
		}
	}
	for n := range 4 {
		if late[n] < 200 || n > 0 && n < 3 && early[n] < 80 {
			t.Errorf("%v answers come in time and %v late", early, late)
		}
	}
}

// TestEveryWindow has the whole time of an offer, from the tick at which it is
// made on, up to the last tick that there is.
func TestEveryWindow(t *testing.T) {
	for window := 1; window <= 8; window++ {
		for _, start := range []int{0, 1, 30, 999990, 1000000} {
			r := withSeats(greatestRules(), 20, 20)
			r.Window = window
			p := impl.Party{Id: 5, Cabin: 1, From: 0, Size: 2, Since: start, Turn: 1, State: 2, Until: start + window}
			for now := start; now <= min(start+window+3, 1000000); now++ {
				h := houseMade(r, now, 2, p)
				wantHouse(t, h)
				wantAnswers(t, h, p)
				if _, code := impl.Accept(h, 5); (code == 0) != (now < start+window) || code != 0 && code != 14 {
					t.Errorf("Accept at %d of an offer up to %d has the code %d", now, start+window, code)
				}
				if _, code := impl.Decline(h, 5); (code == 0) != (now < start+window) || code != 0 && code != 14 {
					t.Errorf("Decline at %d of an offer up to %d has the code %d", now, start+window, code)
				}
			}
		}
	}
}

// TestLateAnswersBesideTimelyOnes answers late offers of a state whose other
// offers can still be accepted, which sells those alone.
func TestLateAnswersBesideTimelyOnes(t *testing.T) {
	h := needHouse()
	for _, id := range []int{7, 8, 9} {
		wantNoAnswers(t, h, id, 14)
	}
	got := wantAccept(t, wantAccept(t, h, 2), 3)
	for _, id := range []int{7, 8, 9} {
		wantNoAnswers(t, got, id, 14)
	}
	for _, id := range []int{2, 3} {
		wantNoAnswers(t, got, id, 7)
	}
	if got.Cabins[0].Seats != ledger(20, 13, 2, 5, 1) || got.Cabins[1].Seats != ledger(30, 22, 5, 3, 0) || !slices.Equal(got.Todo, []int{0, 1}) {
		t.Errorf("the two accepted offers leave %+v", got)
	}
}

// TestAcceptFrom has each From and each Todo.
func TestAcceptFrom(t *testing.T) {
	for _, untils := range [][]int{{9}, {7, 14}, {9, 9, 9}, {5, 14, 5, 14, 7}, {7, 8, 9, 10, 11, 12, 13, 14}} {
		for _, froms := range [][]int{{-1}, {0}, {2}, {2, -1, 0}} {
			h := offersHouse(froms, untils...)
			wantHouse(t, h)
			for _, todo := range todosOf(3) {
				h.Todo = todo
				for i, p := range h.Parties[:len(untils)] {
					if untils[i] <= 6 {
						wantNoAnswers(t, h, p.Id, 14)
						continue
					}
					got := wantAccept(t, h, p.Id)
					wantSold(t, h, got, p)
					wantOthersKept(t, h, got, p)
					wantGivenBack(t, h, got, p)
				}
			}
		}
	}
}

// wantGivenBack looks at the cabin in which a party had seats, and at Todo.
func wantGivenBack(t *testing.T, h, got impl.House, p impl.Party) {
	t.Helper()
	for at, c := range h.Cabins {
		l := c.Seats
		if at == p.Cabin {
			continue
		}
		if at == p.From {
			l = ledger(l.Total, l.Free+p.Size, l.Held, l.Sold-p.Size, l.Tied-p.Size)
		}
		if got.Cabins[at].Seats != l {
			t.Errorf("Accept of %+v turns the counts of cabin %d from %+v into %+v", p, at, c.Seats, got.Cabins[at].Seats)
		}
	}
	want := h.Todo
	if p.From != -1 {
		want = todoWith(want, p.From)
	}
	if !slices.Equal(got.Todo, want) {
		t.Errorf("Accept of %+v turns Todo %v into %v", p, h.Todo, got.Todo)
	}
}

// wantOthersKept expects the parties, entries and pins of all others as before.
func wantOthersKept(t *testing.T, h, got impl.House, p impl.Party) {
	t.Helper()
	if !slices.Equal(cutFrom(got.Parties, p.Id), cutFrom(h.Parties, p.Id)) {
		t.Errorf("the answer of %+v turns the parties %+v into %+v", p, h.Parties, got.Parties)
	}
	for at, c := range h.Cabins {
		after := got.Cabins[at]
		if !slices.Equal(withoutEntry(after.Row, p.Id), c.Row) || !wheelEqual(after.Wheel, withoutPin(c.Wheel, pin(p.Until, p.Id))) {
			t.Errorf("the answer of %+v turns cabin %d from %+v into %+v", p, at, c, after)
		}
	}
	if got.Now != h.Now || got.Turn != h.Turn || !slices.Equal(got.Jobs, h.Jobs) || !rulesEqual(got.Rules, h.Rules) {
		t.Errorf("the answer of %+v turns %+v into %+v", p, h, got)
	}
}

// TestAcceptPlaceInTodo has the cabin From first, in the middle, last and not
// there, of four cabins.
func TestAcceptPlaceInTodo(t *testing.T) {
	for from := -1; from < 4; from++ {
		if from == 2 {
			continue
		}
		p := impl.Party{Id: 7, Cabin: 2, From: from, Size: 3, Turn: 1, State: 2, Until: 4}
		h := houseMade(greatestRules(), 0, 2, p)
		for _, todo := range todosOf(4) {
			h.Todo = todo
			got := wantAccept(t, h, 7)
			want := slices.Clone(todo)
			if from != -1 && !slices.Contains(todo, from) {
				want = append(want, from)
			}
			if !slices.Equal(got.Todo, want) {
				t.Errorf("Accept from cabin %d turns Todo %v into %v, want %v", from, todo, got.Todo, want)
			}
			wantPlaceInTodo(t, todo, 2, wantDecline(t, h, 7))
			for cabin := range 4 {
				wantPlaceInTodo(t, todo, cabin, wantFree(t, h, cabin, 1))
			}
		}
	}
}

func wantPlaceInTodo(t *testing.T, todo []int, cabin int, got impl.House) {
	t.Helper()
	want := slices.Clone(todo)
	if !slices.Contains(todo, cabin) {
		want = append(want, cabin)
	}
	if !slices.Equal(got.Todo, want) {
		t.Errorf("with cabin %d, Todo %v becomes %v, want %v", cabin, todo, got.Todo, want)
	}
}

// TestAcceptAllOfACabin has a party with all the seats of the cabin that it
// leaves and of the one that it wants.
func TestAcceptAllOfACabin(t *testing.T) {
	for size := 1; size <= 6; size++ {
		p := impl.Party{Id: 999, Cabin: 0, From: 1, Size: size, Turn: 1, State: 2, Until: 1}
		h := houseMade(withSeats(greatestRules(), size, size), 0, 2, p)
		wantHouse(t, h)
		got := wantAccept(t, h, 999)
		if got.Cabins[0].Seats != ledger(size, 0, 0, size, 0) || got.Cabins[1].Seats != ledger(size, size, 0, 0, 0) || len(got.Parties) != 0 {
			t.Errorf("Accept of %d seats leaves %+v", size, got)
		}
		if back := wantDecline(t, h, 999); back.Cabins[0].Seats != ledger(size, size, 0, 0, 0) || back.Cabins[1].Seats != ledger(size, 0, 0, size, size) {
			t.Errorf("Decline of %d seats leaves %+v", size, back)
		}
	}
}

// wantWaitsAgain looks at a party that has declined an offer, but not its last.
func wantWaitsAgain(t *testing.T, h, got impl.House, p impl.Party) {
	t.Helper()
	want := p
	want.Asked, want.State, want.Until = p.Asked+1, 1, h.Now+h.Rules.Rest
	at := placeFound(got.Parties, p.Id)
	if at < 0 || got.Parties[at] != want {
		t.Errorf("Decline of %+v leaves the parties %+v, want %+v among them", p, got.Parties, want)
		return
	}
	wantPlace(t, got, p.Id, placeInRow(got, want))
	if !impl.QueueOk(got.Cabins[p.Cabin].Row) {
		t.Errorf("Decline of %+v leaves the row %+v", p, got.Cabins[p.Cabin].Row)
	}
	wantBack(t, h, got, p, 0)
}

// wantRemoved looks at a party that has declined its last offer.
func wantRemoved(t *testing.T, h, got impl.House, p impl.Party) {
	t.Helper()
	if placeFound(got.Parties, p.Id) >= 0 || len(got.Parties) != len(h.Parties)-1 {
		t.Errorf("Decline of %+v leaves the parties %+v", p, got.Parties)
	}
	for at, c := range got.Cabins {
		if !slices.Equal(c.Row, h.Cabins[at].Row) {
			t.Errorf("Decline of %+v turns the row %+v into %+v", p, h.Cabins[at].Row, c.Row)
		}
	}
	wantPlace(t, got, p.Id, -1)
	wantBack(t, h, got, p, p.Size)
}

// wantBack looks at the counts after a Decline that unties some seats, and at
// Todo.
func wantBack(t *testing.T, h, got impl.House, p impl.Party, untied int) {
	t.Helper()
	for at, c := range h.Cabins {
		l := c.Seats
		if at == p.Cabin {
			l = ledger(l.Total, l.Free+p.Size, l.Held-p.Size, l.Sold, l.Tied)
		}
		if at == p.From {
			l.Tied -= untied
		}
		if got.Cabins[at].Seats != l {
			t.Errorf("Decline of %+v turns the counts of cabin %d from %+v into %+v", p, at, c.Seats, got.Cabins[at].Seats)
		}
	}
	wantPlaceInTodo(t, h.Todo, p.Cabin, got)
	wantNoOffer(t, got, p.Id)
}

// TestDeclineAndTheLastTry has each number of tries, each number of offers that
// were not taken, each rest, each From and each Todo.
func TestDeclineAndTheLastTry(t *testing.T) {
	again, last := 0, 0
	for tries := 1; tries <= 4; tries++ {
		for asked := range tries {
			for _, rest := range []int{0, 1, 8} {
				for _, from := range []int{-1, 0, 2} {
					r := withSeats(greatestRules(), 30, 40, 50)
					r.Tries, r.Rest = tries, rest
					p := impl.Party{Id: 50, Cabin: 1, From: from, Size: 4, Tier: 1, Since: 4, Turn: 7, State: 2, Until: 12, Asked: asked}
					h := houseMade(r, 9, 20,
						impl.Party{Id: 3, Cabin: 1, From: from, Size: 2, Tier: 1, Since: 3, Turn: 6, State: 1},
						p,
						impl.Party{Id: 51, Cabin: 1, From: -1, Size: 1, Tier: 1, Since: 5, Turn: 8, State: 1, Until: 9, Asked: asked},
						impl.Party{Id: 60, Cabin: 0, From: 1, Size: 5, Tier: 0, Since: 9, Turn: 12, State: 2, Until: 12, Asked: asked},
						impl.Party{Id: 61, Cabin: 1, From: 2, Size: 3, Tier: 0, Since: 9, Turn: 13, State: 2, Until: 12, Asked: 0})
					wantHouse(t, h)
					for _, todo := range todosOf(3) {
						h.Todo = todo
						got := wantDecline(t, h, 50)
						wantOthersKept(t, h, got, p)
						if asked+1 < tries {
							wantWaitsAgain(t, h, got, p)
							wantPlace(t, got, 50, 1)
							wantNoAnswers(t, got, 50, 13)
							again++
						} else {
							wantRemoved(t, h, got, p)
							wantNoAnswers(t, got, 50, 7)
							last++
						}
					}
				}
			}
		}
	}
	if again < 500 || last < 500 {
		t.Errorf("%d parties wait again and %d are removed", again, last)
	}
}

// TestDeclineUntilRemoved offers the seats to one party as often as it is asked.
func TestDeclineUntilRemoved(t *testing.T) {
	for tries := 1; tries <= 4; tries++ {
		for _, from := range []int{-1, 1} {
			r := withSeats(greatestRules(), 9, 9)
			r.Tries, r.Rest = tries, 0
			h := wantFree(t, newHouse(r), 0, 5)
			h = wantJoin(t, h, joinReq(8, 0, from, 5, 4))
			for n := 1; n <= tries; n++ {
				if len(h.Parties) != 1 || h.Parties[0].Asked != n-1 {
					t.Fatalf("the parties are %+v after %d offers", h.Parties, n-1)
				}
				h = wantDecline(t, offered(h, 8), 8)
			}
			if len(h.Parties) != 0 || h.Cabins[0].Seats != ledger(9, 5, 0, 4, 0) || h.Cabins[1].Seats != ledger(9, 0, 0, 9, 0) {
				t.Errorf("after %d offers, %+v is left", tries, h)
			}
		}
	}
}

// TestDeclinePlaces has rows with entries of all levels, and puts parties of
// each tier among them, with better Turns and with worse ones.
func TestDeclinePlaces(t *testing.T) {
	seen := map[int]int{}
	r := withSeats(greatestRules(), 60, 60)
	r.Period = 2
	for seed := range 400 {
		next := mixer(seed)
		r.Rest = next(3)
		var list []impl.Party
		since, n := 0, 1+next(10)
		for i := range n {
			since += next(2)
			list = append(list, impl.Party{Id: 10 * (i + 1), Cabin: 1, From: next(2) - 1, Size: 1 + next(3), Tier: next(5), Since: since, Turn: 1 + 2*i, State: 1})
		}
		p := &list[next(n)]
		now := since + next(4)
		p.State, p.Until, p.Asked = 2, now+1+next(8), next(3)
		h := houseMade(r, now, 40, list...)
		wantHouse(t, h)
		got := wantDecline(t, h, p.Id)
		wantWaitsAgain(t, h, got, *p)
		wantOthersKept(t, h, got, *p)
		at := impl.PlaceOf(got, p.Id)
		seen[at]++
		if row := h.Cabins[1].Row; at >= 0 && at == len(row) {
			seen[-1]++
		}
		e := got.Cabins[1].Row[max(at, 0)]
		for i, other := range got.Cabins[1].Row {
			if i < at && !impl.EntryLess(other, e) || i > at && !impl.EntryLess(e, other) {
				t.Errorf("Decline of %+v: %+v is at %d", p, other, i)
			}
		}
	}
	if seen[0] < 50 || seen[1] < 20 || seen[4] < 10 || seen[-1] < 50 {
		t.Errorf("the places are %v", seen)
	}
}

// TestDeclineAtTheEnd rests beyond the last tick.
func TestDeclineAtTheEnd(t *testing.T) {
	p := impl.Party{Id: 1, Cabin: 2, From: 3, Size: 6, Tier: 4, Since: 1000000, Turn: 1000000, State: 2, Until: 1000008, Asked: 2}
	h := houseMade(greatestRules(), 1000000, 1000001, p)
	wantHouse(t, h)
	got := wantDecline(t, h, 1)
	if len(got.Parties) != 1 || got.Parties[0].Until != 1000008 || got.Parties[0].Asked != 3 {
		t.Errorf("Decline at the last tick leaves %+v", got.Parties)
	}
	wantAccept(t, h, 1)
	p.Asked = 3
	wantRemoved(t, h, wantDecline(t, houseMade(greatestRules(), 1000000, 1000001, p), 1), p)
}

// TestDeclineInAFullCabin has as many parties as there is room for.
func TestDeclineInAFullCabin(t *testing.T) {
	for n := 1; n <= 10; n++ {
		for waiting := range n {
			r := withSeats(greatestRules(), 60, 60, 60)
			r.Room = n
			h := houseMade(r, 3, 20, crowd(1, waiting, n)...)
			wantHouse(t, h)
			for _, p := range h.Parties {
				if p.State == 2 && p.Until > 3 {
					wantDecline(t, h, p.Id)
				}
				wantAccept(t, h, p.Id)
				wantDecline(t, h, p.Id)
			}
		}
	}
}

// TestOnlyItsOwnPin has offers that end at the same tick, and pins that lie in
// the same spoke a turn apart.
func TestOnlyItsOwnPin(t *testing.T) {
	shared := 0
	for _, untils := range [][]int{{9}, {14}, {9, 9}, {14, 5}, {5, 14}, {14, 14, 14, 14}, {14, 14, 5, 5, 14}, {5, 14, 5, 14, 5, 14}, {7, 8, 9, 10, 11, 12, 13, 14}, {3, 12, 12, 4, 13, 13, 3, 12}} {
		for _, froms := range [][]int{{-1}, {0}, {2, -1, 0}} {
			h := offersHouse(froms, untils...)
			wantHouse(t, h)
			for i, p := range h.Parties[:len(untils)] {
				left := slices.DeleteFunc(allPins(h.Cabins[1].Wheel), func(other impl.Pin) bool { return other.Id == p.Id })
				if untils[i] <= 6 {
					wantNoAnswers(t, h, p.Id, 14)
					continue
				}
				shared += min(len(h.Cabins[1].Wheel.Spoke[untils[i]%9]), 2) / 2
				for _, got := range []impl.House{wantAccept(t, h, p.Id), wantDecline(t, h, p.Id)} {
					if pins := allPins(got.Cabins[1].Wheel); !slices.Equal(pins, left) || len(pins) != len(untils)-1 {
						t.Errorf("the answer of %+v leaves the pins %v, want %v", p, pins, left)
					}
					if len(got.Cabins[1].Wheel.Spoke) != 9 || !wheelEqual(got.Cabins[0].Wheel, h.Cabins[0].Wheel) {
						t.Errorf("the answer of %+v turns %+v into %+v", p, h.Cabins, got.Cabins)
					}
					for _, other := range h.Parties {
						if other.State == 2 && other.Id != p.Id {
							wantOffer(t, got, other.Id, pin(other.Until, other.Id))
						}
					}
				}
			}
		}
	}
	if shared < 30 {
		t.Errorf("only %d pins share a spoke", shared)
	}
}

// TestFreeSeatsNumbers has each number of seats that are sold and not tied, and
// frees one less, as many and more.
func TestFreeSeatsNumbers(t *testing.T) {
	for _, tied := range []int{0, 1, 3} {
		for loose := range 8 {
			for _, free := range []int{0, 2} {
				p := impl.Party{Id: 3, Cabin: 0, From: 1, Size: max(tied, 1), Turn: 1, State: 1}
				q := impl.Party{Id: 4, Cabin: 1, From: -1, Size: 2, Turn: 2, State: 2, Until: 1}
				if tied == 0 {
					p.From = 2
				}
				total := free + 2 + loose + tied
				h := houseMade(withSeats(greatestRules(), 9, total, 9), 0, 3, p, q)
				h = withCabin(h, 1, withLedger(h.Cabins[1], ledger(total, free, 2, loose+tied, tied)))
				wantHouse(t, h)
				for n := 1; n <= loose+5; n++ {
					got := wantFree(t, h, 1, n)
					if n > loose {
						wantNoAnswer(t, h, freeReq(1, n), 12)
						continue
					}
					if l := got.Cabins[1].Seats; l != ledger(total, free+n, 2, loose+tied-n, tied) {
						t.Errorf("FreeSeats of %d turns the counts %+v into %+v", n, h.Cabins[1].Seats, l)
					}
					wantLoose(t, got, 1, loose-n)
					if n < loose {
						wantFree(t, got, 1, loose-n)
					}
					wantNoAnswer(t, got, freeReq(1, loose-n+1), 12)
				}
				wantNoAnswer(t, h, freeReq(1, 0), 5)
			}
		}
	}
}

// TestFreeSeatsChangesNothingElse has each cabin and each Todo.
func TestFreeSeatsChangesNothingElse(t *testing.T) {
	for _, h := range []impl.House{handHouse(), offersHouse([]int{2, -1, 0}, 14, 5, 7, 14), rowOf([]int{2, 0, 3, 1}, -1, 0)} {
		for _, todo := range todosOf(3) {
			h.Todo = todo
			for cabin, c := range h.Cabins {
				for _, n := range []int{1, looseSeats(h, cabin), looseSeats(h, cabin) + 1} {
					got := wantFree(t, h, cabin, n)
					if n > looseSeats(h, cabin) {
						wantNoAnswer(t, h, freeReq(cabin, n), 12)
						continue
					}
					for at := range h.Cabins {
						if !slices.Equal(got.Cabins[at].Row, h.Cabins[at].Row) || !wheelEqual(got.Cabins[at].Wheel, h.Cabins[at].Wheel) || at != cabin && got.Cabins[at].Seats != h.Cabins[at].Seats {
							t.Errorf("FreeSeats of %d turns %+v into %+v", cabin, h.Cabins, got.Cabins)
						}
					}
					if l := c.Seats; got.Cabins[cabin].Seats != ledger(l.Total, l.Free+n, l.Held, l.Sold-n, l.Tied) || !slices.Equal(got.Parties, h.Parties) {
						t.Errorf("FreeSeats of %d in cabin %d turns %+v into %+v", n, cabin, h, got)
					}
					wantPlaceInTodo(t, todo, cabin, got)
				}
			}
		}
	}
}

// TestFreeSeatsOfAllSeats has cabins of all sizes.
func TestFreeSeatsOfAllSeats(t *testing.T) {
	for _, seats := range []int{1, 2, 59, 60} {
		h := newHouse(withSeats(leastRules(), seats))
		got := wantFree(t, h, 0, seats)
		if got.Cabins[0].Seats != ledger(seats, seats, 0, 0, 0) {
			t.Errorf("FreeSeats of all %d seats leaves %+v", seats, got.Cabins[0].Seats)
		}
		wantNoAnswer(t, got, freeReq(0, 1), 12)
		if seats < 60 {
			wantNoAnswer(t, h, freeReq(0, seats+1), 12)
		} else {
			wantNoAnswer(t, h, freeReq(0, 61), 5, 12)
		}
	}
}

// TestAnswersRejected has each reason, alone and beside later ones.
func TestAnswersRejected(t *testing.T) {
	h := needHouse()
	bad := brokenHouse(h)
	wantNoAnswer(t, bad, freeReq(0, 1), 1)
	wantNoAnswer(t, bad, freeReq(-1, 99), 1, 3, 4, 5, 12)
	wantNoAnswer(t, h, freeReq(-1, 1), 3, 4, 12)
	wantNoAnswer(t, h, freeReq(10000, 1), 3, 4, 12)
	wantNoAnswer(t, h, freeReq(0, -1), 3, 5)
	wantNoAnswer(t, h, freeReq(0, 10000), 3, 5, 12)
	wantNoAnswer(t, h, freeReq(3, 1), 4, 12)
	wantNoAnswer(t, h, freeReq(3, 0), 4, 5)
	wantNoAnswer(t, h, freeReq(9999, 61), 4, 5, 12)
	wantNoAnswer(t, h, freeReq(0, 0), 5)
	wantNoAnswer(t, h, freeReq(0, 61), 5, 12)
	wantNoAnswer(t, h, freeReq(1, 61), 5, 12)
	wantNoAnswer(t, h, freeReq(0, 4), 12)
	wantNoAnswer(t, h, freeReq(1, 1), 12)
	wantNoAnswer(t, h, freeReq(2, 2), 12)
	wantNoAnswer(t, h, freeReq(0, 60), 12)
	wantNoAnswers(t, bad, 2, 1)
	wantNoAnswers(t, bad, 1, 1, 13)
	wantNoAnswers(t, bad, 7, 1, 14)
	wantNoAnswers(t, bad, 10, 1, 7)
	wantNoAnswers(t, bad, -1, 1, 3, 7)
	wantNoAnswers(t, h, -1, 3, 7)
	wantNoAnswers(t, h, 10000, 3, 7)
	for _, id := range []int{0, 10, 11, 998, 999, 1000, 9999} {
		wantNoAnswers(t, h, id, 7)
	}
	for _, id := range []int{1, 4, 5, 6} {
		wantNoAnswers(t, h, id, 13)
	}
	for _, id := range []int{7, 8, 9} {
		wantNoAnswers(t, h, id, 14)
	}
}

// TestAnswersOfRestingParties have an Until that is at most the tick, or not:
// it is no expiry of an offer.
func TestAnswersOfRestingParties(t *testing.T) {
	for until := range 9 {
		p := impl.Party{Id: 5, Cabin: 1, From: 0, Size: 2, Turn: 1, State: 1, Until: until, Asked: 1}
		h := houseMade(cabinRules(), 6, 2, p)
		wantHouse(t, h)
		wantNoAnswers(t, h, 5, 13)
		wantNoOffer(t, h, 5)
	}
}

// TestAnswersToInvalidHouses are rejected whatever they ask for.
func TestAnswersToInvalidHouses(t *testing.T) {
	for _, h := range badHouses() {
		for _, q := range []impl.Req{freeReq(0, 1), freeReq(1, 2), freeReq(-1, -1), acceptReq(2), acceptReq(3), acceptReq(7), acceptReq(0), declineReq(2), declineReq(3), declineReq(7), declineReq(-1)} {
			got, code := answerOf(h, q)
			wantStep(t, "the request", h, q, got, code, h, 1)
		}
		for id := -1; id <= 10; id++ {
			wantNoOffer(t, h, id)
		}
	}
}

// TestAnswersAtTheExtremes has numbers that are no index of anything.
func TestAnswersAtTheExtremes(t *testing.T) {
	edges := append(extremes(), -10000, -2, -1, 0, 1, 2, 3, 4, 60, 61, 999, 1000, 9999, 10000, 1<<32, 1<<32+2, -1<<32+2)
	for _, h := range append(badHouses()[:20], impl.House{}, needHouse(), handHouse(), newHouse(leastRules()), newHouse(greatestRules())) {
		for _, n := range edges {
			for _, m := range edges {
				wantFree(t, h, n, m)
			}
			wantAccept(t, h, n)
			wantDecline(t, h, n)
			at := placeFound(h.Parties, n)
			if !impl.HouseOk(h) || at < 0 || h.Parties[at].State != 2 {
				wantNoOffer(t, h, n)
			}
		}
	}
}

// TestOfferOf looks at offers before, at and after their Until.
func TestOfferOf(t *testing.T) {
	late, early, resting := 0, 0, 0
	all := someHouses()
	for seed := range 300 {
		all = append(all, randomHouse(mixer(seed)))
	}
	for _, h := range all {
		for _, p := range h.Parties {
			wantNoOffer(t, brokenHouse(h), p.Id)
			if p.State != 2 {
				wantNoOffer(t, h, p.Id)
				if p.Until > h.Now {
					resting++
				}
				continue
			}
			for now := max(p.Until-2, h.Now); now <= min(p.Until+2, 1000000); now++ {
				at := atTick(h, now)
				wantHouse(t, at)
				wantOffer(t, at, p.Id, pin(p.Until, p.Id))
				if now < p.Until {
					early++
				} else {
					late++
				}
			}
			wantOffer(t, h, p.Id, pin(p.Until, p.Id))
			for _, id := range []int{p.Id - 1, p.Id + 1, -p.Id, p.Id + 1<<32} {
				if placeFound(h.Parties, id) < 0 {
					wantNoOffer(t, h, id)
				}
			}
		}
		for _, id := range append(extremes(), -1, 0, 1000, 10000) {
			wantNoOffer(t, h, id)
			wantNoOffer(t, brokenHouse(h), id)
		}
	}
	if late < 200 || early < 100 || resting < 50 {
		t.Errorf("%d offers are late, %d are not, and %d parties rest", late, early, resting)
	}
}

// chainHouse has party 1, which is offered in cabin 0 and has seats in cabin 1,
// parties 2 and 3, which wait for cabin 1 and have seats in cabins 2 and 0, and
// party 4, which waits for cabin 2 and has no seats.
func chainHouse(size int) impl.House {
	list := []impl.Party{
		{Id: 1, Cabin: 0, From: 1, Size: size, Tier: 0, Since: 1, Turn: 1, State: 2, Until: 8},
		{Id: 2, Cabin: 1, From: 2, Size: size, Tier: 0, Since: 2, Turn: 2, State: 1},
		{Id: 3, Cabin: 1, From: 0, Size: size, Tier: 1, Since: 2, Turn: 3, State: 1},
		{Id: 4, Cabin: 2, From: -1, Size: size, Tier: 0, Since: 3, Turn: 4, State: 1},
	}
	h := houseMade(withSeats(greatestRules(), 20, 30, 40), 5, 5, list...)
	for at, c := range h.Cabins {
		l := c.Seats
		h.Cabins[at] = withLedger(c, ledger(l.Total, 0, l.Held, l.Total-l.Held, l.Tied))
	}
	return h
}

// TestChainOfUpgrades passes the seats on from cabin to cabin.
func TestChainOfUpgrades(t *testing.T) {
	for size := 1; size <= 6; size++ {
		h := chainHouse(size)
		wantHouse(t, h)
		for _, step := range []struct{ id, cabin, next int }{{1, 1, 2}, {2, 2, 4}, {4, -1, 0}} {
			h.Todo = nil
			for cabin := range h.Cabins {
				wantHold(t, h, cabin, 1, false)
			}
			after := wantAccept(t, h, step.id)
			wantTotals(t, chainHouse(size), after)
			if step.cabin == -1 {
				if len(after.Todo) != 0 {
					t.Errorf("the last Accept leaves Todo %v", after.Todo)
				}
				h = after
				continue
			}
			row := after.Cabins[step.cabin].Row
			wantHold(t, after, step.cabin, size, true)
			wantHold(t, after, step.cabin, size+1, false)
			if at := impl.FirstFit(row, after.Cabins[step.cabin].Seats.Free, nil); at != 0 || row[0].Id != step.next {
				t.Errorf("after the Accept of %d, %d of %+v fits", step.id, at, row)
			}
			if !slices.Equal(after.Todo, []int{step.cabin}) {
				t.Errorf("the Accept of %d leaves Todo %v", step.id, after.Todo)
			}
			h = offered(after, step.next)
			wantHouse(t, h)
		}
		if len(h.Parties) != 1 || h.Parties[0].Id != 3 {
			t.Errorf("the chain leaves %+v", h.Parties)
		}
		for at, c := range h.Cabins {
			l := ledger(c.Seats.Total, 0, 0, c.Seats.Total, 0)
			if at == 0 {
				l.Tied = size
			}
			if c.Seats != l {
				t.Errorf("the chain leaves %+v in cabin %d, want %+v", c.Seats, at, l)
			}
		}
	}
}

// TestChainThatComesBack has two parties that change places.
func TestChainThatComesBack(t *testing.T) {
	list := []impl.Party{
		{Id: 6, Cabin: 0, From: 1, Size: 2, Turn: 1, State: 2, Until: 3},
		{Id: 7, Cabin: 1, From: 0, Size: 2, Turn: 2, State: 1},
	}
	h := houseMade(withSeats(greatestRules(), 4, 4), 2, 3, list...)
	h = withCabin(h, 0, withLedger(h.Cabins[0], ledger(4, 0, 2, 2, 2)))
	h = withCabin(h, 1, withLedger(h.Cabins[1], ledger(4, 0, 0, 4, 2)))
	wantHouse(t, h)
	h = wantAccept(t, offered(wantAccept(t, h, 6), 7), 7)
	if h.Cabins[0].Seats != ledger(4, 2, 0, 2, 0) || h.Cabins[1].Seats != ledger(4, 0, 0, 4, 0) || len(h.Parties) != 0 || !slices.Equal(h.Todo, []int{1, 0}) {
		t.Errorf("the two parties leave %+v", h)
	}
}

// fitting are the parties that wait and fit into the free seats.
func fitting(h impl.House) []int {
	var ids []int
	for _, p := range h.Parties {
		if p.State == 1 && p.Size <= h.Cabins[p.Cabin].Seats.Free {
			ids = append(ids, p.Id)
		}
	}
	return ids
}

// TestAnswersInAnyOrder runs histories of all the requests that there are up to
// here, with offers and ticks that are made by hand: each state is the one that
// is written out.
func TestAnswersInAnyOrder(t *testing.T) {
	sold, lost, late := 0, 0, 0
	for seed := range 50 {
		next := mixer(seed)
		h, _ := impl.HouseNew(randomRules(next))
		for range 120 {
			id := 1 + next(999)
			if len(h.Parties) > 0 {
				id = h.Parties[next(len(h.Parties))].Id
			}
			was := len(h.Parties)
			switch next(8) {
			case 0, 1:
				h = wantJoin(t, h, randomJoin(next, h))
			case 2:
				h = wantFree(t, h, next(len(h.Cabins)+1), 1+next(8))
			case 3, 4:
				if ids := fitting(h); len(ids) > 0 {
					h = offered(h, ids[next(len(ids))])
				}
			case 5:
				h = wantAccept(t, h, id)
				sold += was - len(h.Parties)
			case 6:
				h = wantDecline(t, h, id)
				lost += was - len(h.Parties)
			default:
				if next(3) == 0 {
					h = atTick(h, h.Now+1)
				}
			}
			wantHouse(t, h)
			for _, p := range h.Parties {
				if p.State == 2 && p.Until <= h.Now {
					wantNoAnswers(t, h, p.Id, 14)
					late++
				}
			}
		}
	}
	if sold < 120 || lost < 40 || late < 500 {
		t.Errorf("%d offers are accepted, %d parties are removed, and %d offers are late", sold, lost, late)
	}
}

// TestRandomAnswers has each answer and each number of seats of many states.
func TestRandomAnswers(t *testing.T) {
	seen := map[int]int{}
	for seed := range 300 {
		next := mixer(seed)
		h := randomHouse(next)
		if seed%2 == 0 {
			h = tightHouse(next)
		}
		for _, p := range h.Parties {
			wantAccept(t, h, p.Id)
			wantDecline(t, h, p.Id)
			seen[firstReason(h, acceptReq(p.Id))]++
		}
		for cabin := range h.Cabins {
			for _, n := range []int{0, 1, 2, looseSeats(h, cabin), looseSeats(h, cabin) + 1} {
				wantFree(t, h, cabin, n)
				seen[100+firstReason(h, freeReq(cabin, n))]++
			}
		}
	}
	for _, code := range []int{0, 13, 14, 100, 105, 112} {
		if seen[code] < 60 {
			t.Errorf("the codes are %v", seen)
		}
	}
}

// answersTo are the requests of this layer that can be tried on a state.
func answersTo(h impl.House) []impl.Req {
	list := []impl.Req{acceptReq(-1), acceptReq(0), acceptReq(999), declineReq(1000), declineReq(0), freeReq(-1, 1), freeReq(9, 1)}
	for _, p := range h.Parties {
		list = append(list, acceptReq(p.Id), declineReq(p.Id))
	}
	for cabin := range h.Cabins {
		list = append(list, freeReq(cabin, 1), freeReq(cabin, max(looseSeats(h, cabin), 1)), freeReq(cabin, 61))
	}
	return list
}

// TestAnswersArgumentsAreKept covers the unused capacity of every slice, and the
// memory of the results.
func TestAnswersArgumentsAreKept(t *testing.T) {
	done, rejected := map[int]int{}, map[int]int{}
	list := append(append(someHouses(), badHouses()...), sharingHouse(), needHouse(), chainHouse(3), offersHouse([]int{2, -1, 0}, 14, 5, 7, 14))
	for _, h := range list {
		room := roomyHouse(h)
		was := memoryOf(room)
		for _, q := range answersTo(h) {
			got, code := answerOf(room, q)
			wantOwnMemory(t, got, room)
			want, wantCode := answerOf(h, q)
			wantStep(t, "the request", h, q, got, code, want, wantCode)
			if now := memoryOf(room); !reflect.DeepEqual(now, was) {
				t.Fatalf("the state %+v became %+v", was, now)
			}
			if code == 0 {
				done[q.Kind]++
			} else {
				rejected[q.Kind]++
			}
			pin, ok := impl.OfferOf(room, q.Id)
			if wantPin, wantOk := impl.OfferOf(h, q.Id); pin != wantPin || ok != wantOk {
				t.Errorf("OfferOf(%+v, %d) = %+v, %v", room, q.Id, pin, ok)
			}
		}
		if now := memoryOf(room); !reflect.DeepEqual(now, was) {
			t.Errorf("the state %+v became %+v", was, now)
		}
	}
	for kind := 3; kind <= 5; kind++ {
		if done[kind] < 20 || rejected[kind] < 100 {
			t.Errorf("%v requests are performed and %v rejected", done, rejected)
		}
	}
}

// TestAnswersOfSharedLists has an argument whose lists share memory.
func TestAnswersOfSharedLists(t *testing.T) {
	h := sharingHouse()
	for cabin := range 3 {
		for n := 1; n <= 3; n++ {
			got := wantFree(t, h, cabin, n)
			wantOwnMemory(t, got, h)
			got = wantJoin(t, got, joinReq(8, cabin, -1, 1, 1))
			if n > 2 {
				continue
			}
			offer := offered(got, 8)
			for _, answer := range []impl.House{wantAccept(t, offer, 8), wantDecline(t, offer, 8)} {
				wantOwnMemory(t, answer, offer)
				wantOwnMemory(t, answer, h)
			}
		}
	}
	wantHouse(t, h)
}

// TestAnswersCanBeChanged writes to a result, which changes neither the argument
// nor the result of another call.
func TestAnswersCanBeChanged(t *testing.T) {
	for _, h := range []impl.House{handHouse(), needHouse(), brokenHouse(needHouse()), chainHouse(2), newHouse(plainRules())} {
		kept := emptied(h)
		kept.Rules.Seats = slices.Clone(h.Rules.Seats)
		for _, q := range answersTo(h) {
			one, _ := answerOf(h, q)
			two, code := answerOf(h, q)
			for _, spoil := range houseParts(one) {
				spoil()
			}
			again, againCode := answerOf(h, q)
			if !houseEqual(h, kept) || !houseEqual(two, again) || code != againCode {
				t.Errorf("%+v in %+v: the results share memory", q, h)
			}
		}
	}
}
