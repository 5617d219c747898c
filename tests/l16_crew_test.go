package tests

import (
	"math"
	"reflect"
	"runtime"
	"slices"
	"testing"

	"loop.example/g00494/impl"
)

// rowFound is the document's QueueOf the parties of a cabin, written out.
func rowFound(h impl.House, cabin, now int) []impl.Entry {
	var row []impl.Entry
	for _, p := range h.Parties {
		if p.Cabin != cabin || p.State != 1 {
			continue
		}
		e := impl.Entry{Level: levelAfter(h.Rules, p.Tier, now-p.Since), Turn: p.Turn, Id: p.Id, Size: p.Size}
		at := 0
		for at < len(row) && (row[at].Level < e.Level || row[at].Level == e.Level && row[at].Turn < e.Turn) {
			at++
		}
		row = slices.Insert(row, at, e)
	}
	return row
}

// agedFound is the document's Aged of a valid state, written out.
func agedFound(h impl.House, now int) []impl.Entry {
	var list []impl.Entry
	for cabin := range h.Cabins {
		list = append(list, rowFound(h, cabin, now)...)
	}
	return list
}

// ticked is the state after a RqTick that can be performed, written out.
func ticked(h impl.House) impl.House {
	h.Now++
	for cabin, c := range h.Cabins {
		h = withCabin(h, cabin, withRow(c, rowFound(h, cabin, h.Now)...))
		if countSum(h.Parties, cabin) > 0 {
			h.Todo = todoWith(h.Todo, cabin)
		}
	}
	return h
}

func withJob(h impl.House, who, job int) impl.House {
	h.Jobs = slices.Clone(h.Jobs)
	h.Jobs[who] = job
	return h
}

func withTodo(h impl.House, todo ...int) impl.House {
	h.Todo = todo
	return h
}

// picked is the state after a RqPick that can be performed, written out.
func picked(h impl.House, who int) (impl.House, []int) {
	job := h.Jobs[who]
	if job == -1 {
		return withTodo(withJob(h, who, h.Todo[0]), h.Todo[1:]...), nil
	}
	h = withJob(h, who, -1)
	return offeredAll(expired(h, job), job)
}

// wantTick returns the state after the request, with all that is promised of it.
func wantTick(t *testing.T, h impl.House) impl.House {
	t.Helper()
	got, code := impl.Tick(h)
	wantAnswered(t, "Tick", h, tickReq(), got, code, func() impl.House { return ticked(h) })
	if code == 0 {
		wantTierOrder(t, h, got)
		wantTickKeeps(t, h, got)
		wantAged(t, h, h.Now+1, agedFound(got, got.Now)...)
	}
	return got
}

// wantTierOrder is the first half of the promise: it looks at the rows before
// and after, and at no level.
func wantTierOrder(t *testing.T, h, got impl.House) {
	t.Helper()
	tier := func(e impl.Entry) int { return h.Parties[placeFound(h.Parties, e.Id)].Tier }
	for cabin, c := range h.Cabins {
		row := got.Cabins[cabin].Row
		if len(row) != len(c.Row) {
			t.Errorf("Tick turns the row %+v into %+v", c.Row, row)
		}
		for i, e := range c.Row {
			place := impl.QueueAt(row, e.Id)
			if place < 0 || row[place].Turn != e.Turn || row[place].Size != e.Size {
				t.Errorf("Tick turns the row %+v into %+v", c.Row, row)
			}
			for _, other := range c.Row[i+1:] {
				if tier(e) == tier(other) && place >= impl.QueueAt(row, other.Id) {
					t.Errorf("Tick exchanges %+v and %+v of tier %d: the row %+v becomes %+v", e, other, tier(e), c.Row, row)
				}
			}
		}
	}
}

// wantTickKeeps looks at what a Tick must not change.
func wantTickKeeps(t *testing.T, h, got impl.House) {
	t.Helper()
	if got.Now != h.Now+1 || got.Turn != h.Turn || !slices.Equal(got.Parties, h.Parties) || !slices.Equal(got.Jobs, h.Jobs) || !rulesEqual(got.Rules, h.Rules) {
		t.Errorf("Tick turns %+v into %+v", h, got)
	}
	for cabin, c := range h.Cabins {
		if after := got.Cabins[cabin]; after.Seats != c.Seats || !wheelEqual(after.Wheel, c.Wheel) {
			t.Errorf("Tick turns cabin %d from %+v into %+v", cabin, c, after)
		}
	}
}

func wantNoTick(t *testing.T, h impl.House, reasons ...int) {
	t.Helper()
	wantVerdict(t, h, tickReq(), reasons...)
	got, code := impl.Tick(h)
	wantStep(t, "Tick", h, tickReq(), got, code, h, reasons[0])
}

// wantPick returns the state after the request and the Ids, with all that is
// promised of it.
func wantPick(t *testing.T, h impl.House, who int) (impl.House, []int) {
	t.Helper()
	var wantIds []int
	got, code, ids := impl.Pick(h, who)
	wantAnswered(t, "Pick", h, pickReq(who), got, code, func() impl.House {
		want, list := picked(h, who)
		wantIds = list
		return want
	})
	if !slices.Equal(ids, wantIds) {
		t.Errorf("Pick of %d in %+v has the Ids %v, want %v", who, h, ids, wantIds)
	}
	if code == 0 {
		wantPickOf(t, h, who, got, ids)
	} else if ids != nil {
		t.Errorf("Pick of %d in %+v has the code %d and the Ids %v", who, h, code, ids)
	}
	return got, ids
}

// wantPickOf compares with what the program's Scan gives.
func wantPickOf(t *testing.T, h impl.House, who int, got impl.House, ids []int) {
	t.Helper()
	job := h.Jobs[who]
	if job == -1 {
		want := withTodo(withJob(h, who, h.Todo[0]), h.Todo[1:]...)
		if !houseEqual(got, want) || ids != nil {
			t.Errorf("Pick of %d turns %+v into %+v, %v", who, h, got, ids)
		}
		return
	}
	want, list := impl.Scan(h, job)
	if !houseEqual(got, withJob(want, who, -1)) || !slices.Equal(ids, list) {
		t.Errorf("Pick of %d turns %+v into %+v, %v, and Scan into %+v, %v", who, h, got, ids, want, list)
	}
	wantNobodyLeft(t, got, job)
}

func wantNoPick(t *testing.T, h impl.House, who int, reasons ...int) {
	t.Helper()
	wantVerdict(t, h, pickReq(who), reasons...)
	got, code, ids := impl.Pick(h, who)
	wantStep(t, "Pick", h, pickReq(who), got, code, h, reasons[0])
	if ids != nil {
		t.Errorf("Pick of %d in %+v has the code %d and the Ids %v", who, h, code, ids)
	}
}

// lateFound are the Ids of the offers of all cabins that have expired.
func lateFound(h impl.House) []int {
	var ids []int
	for cabin := range h.Cabins {
		ids = append(ids, dueFound(h, cabin)...)
	}
	slices.Sort(ids)
	return ids
}

func wantLate(t *testing.T, h impl.House, want ...int) {
	t.Helper()
	if got := impl.Late(h); !slices.Equal(got, want) {
		t.Errorf("Late(%+v) = %v, want %v", h, got, want)
	}
}

func wantIdle(t *testing.T, h impl.House, want bool) {
	t.Helper()
	if got := impl.Idle(h); got != want {
		t.Errorf("Idle(%+v) = %v, want %v", h, got, want)
	}
}

func wantAged(t *testing.T, h impl.House, now int, want ...impl.Entry) {
	t.Helper()
	if got := impl.Aged(h, now); !slices.Equal(got, want) {
		t.Errorf("Aged(%+v, %d) = %+v, want %+v", h, now, got, want)
	}
}

// nothingToDo is a valid state in which no worker has a cabin.
func nothingToDo(h impl.House) impl.House {
	h.Jobs = noJobs(len(h.Jobs))
	return withTodo(h)
}

func TestTickByHand(t *testing.T) {
	h := handHouse()
	want := handHouse()
	want.Now, want.Todo = 8, []int{2, 0, 1}
	want.Cabins[1].Row = []impl.Entry{{Level: 0, Turn: 4, Id: 4, Size: 2}, {Level: 1, Turn: 5, Id: 6, Size: 1}}
	got, code := impl.Tick(h)
	wantStep(t, "Tick", h, tickReq(), got, code, want, 0)
	wantHouse(t, got)
	want.Now = 9
	want.Cabins[1].Row = []impl.Entry{{Level: 0, Turn: 4, Id: 4, Size: 2}, {Level: 0, Turn: 5, Id: 6, Size: 1}}
	next, code := impl.Tick(got)
	wantStep(t, "Tick", got, tickReq(), next, code, want, 0)
	wantHouse(t, next)
}

func TestPickByHand(t *testing.T) {
	h := needHouse()
	h.Todo = []int{0, 1}
	want := withTodo(withJob(h, 0, 0), 1)
	got, code, ids := impl.Pick(h, 0)
	wantStep(t, "Pick", h, pickReq(0), got, code, want, 0)
	if ids != nil {
		t.Errorf("Pick has the Ids %v", ids)
	}

	h = got
	want = needHouse()
	want.Todo = []int{1}
	want.Parties[0] = impl.Party{Id: 1, Cabin: 0, From: -1, Size: 4, Tier: 2, Since: 6, Turn: 8, State: 2, Until: 11}
	want.Parties[4] = impl.Party{Id: 5, Cabin: 0, From: 2, Size: 2, Tier: 2, Since: 2, Turn: 3, State: 2, Until: 11}
	want.Parties[7] = impl.Party{Id: 8, Cabin: 0, From: -1, Size: 2, Tier: 1, Since: 5, Turn: 7, State: 1, Until: 10, Asked: 1}
	want.Cabins[0] = impl.Cabin{
		Seats: ledger(20, 6, 7, 7, 4),
		Row:   []impl.Entry{{Level: 1, Turn: 7, Id: 8, Size: 2}},
		Wheel: wheel(pin(9, 3), pin(11, 1), pin(11, 5)),
	}
	got, code, ids = impl.Pick(h, 0)
	wantStep(t, "Pick", h, pickReq(0), got, code, want, 0)
	if !slices.Equal(ids, []int{5, 1}) {
		t.Errorf("Pick has the Ids %v", ids)
	}

	h = got
	got, code, ids = impl.Pick(h, 1)
	if code != 0 || !slices.Equal(ids, []int{6}) || !slices.Equal(got.Jobs, []int{-1, -1}) || !slices.Equal(got.Todo, []int{1}) || len(got.Parties) != 8 {
		t.Errorf("Pick turns %+v into %+v, %d, %v", h, got, code, ids)
	}
	wantHouse(t, got)
}

// tieredHouse has up to ten parties of two cabins, of all tiers, that joined one
// after the other; some wait, some rest and some are offered.
func tieredHouse(next func(int) int) impl.House {
	r := withSeats(greatestRules(), 60, 60, 60)
	r.Period, r.Tiers = 1+next(5), 2+next(4)
	now := 8 + next(20)
	since := max(now-20, 0)
	first := next(17)
	var list []impl.Party
	for i := range 3 + next(8) {
		since = min(since+next(4), now)
		p := impl.Party{Id: 1 + (first+5*i)%17, Cabin: next(2), From: 3*next(2) - 1, Size: 1 + next(6), Tier: next(r.Tiers), Since: since, Turn: 2 + 3*i, State: 1, Asked: next(4)}
		switch next(4) {
		case 0:
			p.State, p.Until = 2, now-3+next(11)
		case 1:
			p.Until = now - 3 + next(11)
		}
		list = append(list, p)
	}
	slices.SortFunc(list, func(a, b impl.Party) int { return a.Id - b.Id })
	h := houseMade(r, now, 40, list...)
	h.Todo = todosOf(3)[next(15)]
	h.Jobs = []int{next(4) - 1, next(4) - 1, next(4) - 1}
	return h
}

// exchanged counts the pairs of entries that change their order, and the pairs
// of one tier that there are.
func exchanged(h, got impl.House) (pairs, sameTier int) {
	for cabin, c := range h.Cabins {
		for i, e := range c.Row {
			for _, other := range c.Row[i+1:] {
				if impl.QueueAt(got.Cabins[cabin].Row, e.Id) > impl.QueueAt(got.Cabins[cabin].Row, other.Id) {
					pairs++
				}
				if h.Parties[placeFound(h.Parties, e.Id)].Tier == h.Parties[placeFound(h.Parties, other.Id)].Tier {
					sameTier++
				}
			}
		}
	}
	return pairs, sameTier
}

// TestTicksKeepTheOrderWithinATier is the first half of P16. It also counts what
// the states have.
func TestTicksKeepTheOrderWithinATier(t *testing.T) {
	seen := map[string]int{}
	for seed := range 400 {
		h := tieredHouse(mixer(seed))
		wantHouse(t, h)
		for range 12 {
			got := wantTick(t, h)
			pairs, sameTier := exchanged(h, got)
			seen["exchanged"] += pairs
			seen["same tier"] += sameTier
			seen["late"] += len(lateFound(h))
			for _, p := range h.Parties {
				if p.State == 1 && p.Until > h.Now {
					seen["resting"]++
				}
				if p.State == 2 && p.Until > h.Now {
					seen["offered"]++
				}
			}
			h = got
		}
	}
	for name, least := range map[string]int{"exchanged": 250, "same tier": 5000, "late": 1000, "resting": 1000, "offered": 1000} {
		if seen[name] < least {
			t.Errorf("the states have only %d of %q", seen[name], name)
		}
	}
}

func TestTicksOfSomeHouses(t *testing.T) {
	done, rejected := 0, 0
	for _, h := range append(append(someHouses(), keptHouses()...), brokenHouse(handHouse())) {
		for range 3 {
			got := wantTick(t, h)
			if got.Now == h.Now {
				rejected++
			} else {
				done++
			}
			h = got
		}
	}
	if done < 100 || rejected < 100 {
		t.Errorf("%d ticks are performed and %d rejected", done, rejected)
	}
}

// TestTickPasses has every two parties of one cabin with a short history: where
// the level of one of them falls to that of the other, the Turn decides.
func TestTickPasses(t *testing.T) {
	seen := map[string]int{}
	for _, period := range []int{1, 2, 3, 5} {
		r := withSeats(greatestRules(), 60, 60)
		r.Period = period
		for cell := range 4 * 4 * 9 * 9 {
			tier, other, since, later := cell%4, cell/4%4, cell/16%9, cell/144
			if since > later {
				continue
			}
			p := impl.Party{Id: 8, Cabin: 1, From: -1, Size: 2, Tier: tier, Since: since, Turn: 3, State: 1}
			q := impl.Party{Id: 5, Cabin: 1, From: 0, Size: 3, Tier: other, Since: later, Turn: 6, State: 1}
			h := houseMade(r, 8, 7, q, p)
			got := wantTick(t, h)
			level := func(p impl.Party, now int) int { return levelAfter(r, p.Tier, now-p.Since) }
			improves, otherImproves := level(p, 9) < level(p, 8), level(q, 9) < level(q, 8)
			switch {
			case improves && otherImproves:
				seen["both"]++
			case improves && level(p, 9) == level(q, 9):
				seen["passes"]++
				wantRowIds(t, h, 5, 8)
				wantRowIds(t, got, 8, 5)
			case otherImproves && level(q, 9) == level(p, 9):
				seen["stays behind"]++
				wantRowIds(t, h, 8, 5)
				wantRowIds(t, got, 8, 5)
			case !improves && !otherImproves:
				seen["none"]++
				if !slices.Equal(h.Cabins[1].Row, got.Cabins[1].Row) {
					t.Errorf("no level changes, and Tick turns the row %+v into %+v", h.Cabins[1].Row, got.Cabins[1].Row)
				}
			}
			if level(p, 8) == 0 || level(q, 8) == 0 {
				seen["already 0"]++
			}
		}
	}
	for _, name := range []string{"both", "passes", "stays behind", "none", "already 0"} {
		if seen[name] < 20 {
			t.Errorf("only %d states for %q: %v", seen[name], name, seen)
		}
	}
}

// wantRowIds is about cabin 1.
func wantRowIds(t *testing.T, h impl.House, want ...int) {
	t.Helper()
	var ids []int
	for _, e := range h.Cabins[1].Row {
		ids = append(ids, e.Id)
	}
	if !slices.Equal(ids, want) {
		t.Errorf("at %d, the row is %+v, want the Ids %v", h.Now, h.Cabins[1].Row, want)
	}
}

// TestTickPassesByHand has a party of tier 1 whose level falls to 0 at the next
// tick, and one of tier 0 that joined after it, or before it.
func TestTickPassesByHand(t *testing.T) {
	for period := 1; period <= 12; period++ {
		r := withSeats(greatestRules(), 60, 60)
		r.Period = period
		p := impl.Party{Id: 3, Cabin: 1, From: -1, Size: 2, Tier: 1, Since: 20, Turn: 4, State: 1}
		q := impl.Party{Id: 4, Cabin: 1, From: -1, Size: 2, Tier: 0, Since: 20, Turn: 5, State: 1}
		h := houseMade(r, 19+period, 9, p, q)
		wantRowIds(t, h, 4, 3)
		got := wantTick(t, h)
		wantRowIds(t, got, 3, 4)
		if row := got.Cabins[1].Row; row[0].Level != 0 || row[1].Level != 0 || h.Cabins[1].Row[1].Level != 1 {
			t.Errorf("with a Period of %d, the row is %+v", period, row)
		}
		wantRowIds(t, wantTick(t, got), 3, 4)
		q.Turn = 3
		h = houseMade(r, 19+period, 9, p, q)
		wantRowIds(t, h, 4, 3)
		wantRowIds(t, wantTick(t, h), 4, 3)
		if period > 1 {
			h = houseMade(r, 18+period, 9, p, q)
			if got := wantTick(t, h); !slices.Equal(got.Cabins[1].Row, h.Cabins[1].Row) {
				t.Errorf("a tick before, Tick turns the row %+v into %+v", h.Cabins[1].Row, got.Cabins[1].Row)
			}
		}
	}
}

// peopleOf has one party in each cabin that is not empty: one that waits, rests
// or is offered, each with seats in the cabin behind it.
func peopleOf(kinds ...string) []impl.Party {
	var list []impl.Party
	for cabin, kind := range kinds {
		p := impl.Party{Id: 5 + cabin, Cabin: cabin, From: (cabin + 1) % len(kinds), Size: 2, Tier: 1, Since: 3, Turn: 1 + cabin, State: 1}
		switch kind {
		case "empty":
			continue
		case "rests":
			p.Until = 9
		case "offered":
			p.State, p.Until = 2, 9
		case "late":
			p.State, p.Until = 2, 5
		}
		list = append(list, p)
	}
	return list
}

// TestTickTodo has each way to fill three cabins and each Todo.
func TestTickTodo(t *testing.T) {
	names := []string{"empty", "waits", "rests", "offered", "late"}
	for cell := range 125 {
		kinds := []string{names[cell%5], names[cell/5%5], names[cell/25]}
		h := houseMade(withSeats(greatestRules(), 20, 30, 40), 6, 9, peopleOf(kinds...)...)
		wantHouse(t, h)
		for at, todo := range todosOf(3) {
			h.Todo = todo
			h.Jobs = []int{at%4 - 1, at/4%4 - 1, cell%4 - 1}
			want := slices.Clone(todo)
			for cabin, kind := range kinds {
				if kind != "empty" && !slices.Contains(want, cabin) {
					want = append(want, cabin)
				}
			}
			if got := wantTick(t, h); !slices.Equal(got.Todo, want) || !slices.Equal(got.Jobs, h.Jobs) {
				t.Errorf("with %q, Tick turns Todo from %v into %v, want %v", kinds, todo, got.Todo, want)
			}
		}
	}
}

func TestTickOfFourCabins(t *testing.T) {
	r := withSeats(greatestRules(), 20, 30, 40, 50)
	for _, c := range []struct {
		kinds      []string
		todo, want []int
	}{
		{[]string{"empty", "empty", "empty", "empty"}, nil, nil},
		{[]string{"empty", "empty", "empty", "empty"}, []int{2, 0}, []int{2, 0}},
		{[]string{"empty", "empty", "waits", "empty"}, nil, []int{2}},
		{[]string{"empty", "empty", "rests", "empty"}, []int{3}, []int{3, 2}},
		{[]string{"empty", "empty", "offered", "empty"}, []int{2, 3}, []int{2, 3}},
		{[]string{"waits", "empty", "empty", "offered"}, []int{1, 3}, []int{1, 3, 0}},
		{[]string{"waits", "waits", "waits", "waits"}, nil, []int{0, 1, 2, 3}},
		{[]string{"waits", "waits", "waits", "waits"}, []int{2}, []int{2, 0, 1, 3}},
		{[]string{"waits", "empty", "rests", "late"}, []int{3, 1}, []int{3, 1, 0, 2}},
		{[]string{"offered", "late", "rests", "waits"}, []int{3, 2, 1, 0}, []int{3, 2, 1, 0}},
	} {
		h := withTodo(houseMade(r, 6, 9, peopleOf(c.kinds...)...), c.todo...)
		h.Jobs = []int{2, 2, 0}
		if got := wantTick(t, h); !slices.Equal(got.Todo, c.want) {
			t.Errorf("with %q, Tick turns Todo from %v into %v, want %v", c.kinds, c.todo, got.Todo, c.want)
		}
	}
}

// TestTickOfAFullCabin has as many parties as there is room for.
func TestTickOfAFullCabin(t *testing.T) {
	r := withSeats(greatestRules(), 60, 60, 60)
	for waiting := range 11 {
		h := houseMade(r, 3, 20, crowd(1, waiting, 10)...)
		if got := wantTick(t, h); !slices.Equal(got.Todo, []int{1}) || len(got.Cabins[1].Row) != waiting {
			t.Errorf("Tick leaves %+v", got)
		}
	}
}

// TestTickKeepsParties has an offer that expires before the new tick, at it and
// after it, and a rest that ends there.
func TestTickKeepsParties(t *testing.T) {
	for _, now := range []int{3, 20, 999998} {
		for until := now - 2; until <= now+3; until++ {
			for state := 1; state <= 2; state++ {
				p := impl.Party{Id: 7, Cabin: 1, From: 0, Size: 2, Tier: 1, Since: 1, Turn: 1, State: state, Until: until, Asked: 3}
				h := houseMade(withSeats(greatestRules(), 20, 30), now, 9, p)
				wantHouse(t, h)
				got := wantTick(t, h)
				if got.Parties[0] != p || !slices.Equal(got.Todo, []int{1}) || got.Cabins[1].Seats != h.Cabins[1].Seats {
					t.Errorf("Tick turns %+v into %+v", h, got)
				}
				if state == 2 && until <= now+1 {
					wantLate(t, got, 7)
				} else {
					wantLate(t, got)
				}
			}
		}
	}
}

// TestTickAtTheEnds has Now near 0, and the last tick.
func TestTickAtTheEnds(t *testing.T) {
	for _, h := range []impl.House{newHouse(plainRules()), newHouse(leastRules()), newHouse(greatestRules())} {
		for now := range 4 {
			if got := wantTick(t, atTick(h, now)); got.Now != now+1 {
				t.Errorf("Tick at %d leads to %d", now, got.Now)
			}
		}
	}
	for _, h := range []impl.House{newHouse(plainRules()), handHouse(), needHouse(), chainHouse(2), offersHouse([]int{-1, 2}, 6, 7, 1)} {
		before := atTick(h, 999999)
		last := wantTick(t, before)
		if last.Now != 1000000 {
			t.Errorf("Tick at 999999 leads to %d", last.Now)
		}
		wantNoTick(t, last, 15)
		wantNoTick(t, atTick(h, 1000000), 15)
		wantNoTick(t, brokenHouse(last), 1, 15)
		for who := range h.Rules.Crew {
			wantPick(t, last, who)
		}
	}
}

// TestTwoPicksScan is the second half of P16, with nothing between the two.
func TestTwoPicksScan(t *testing.T) {
	none, offers, due := 0, 0, 0
	for seed := range 600 {
		next := mixer(seed)
		h := scarceHouse(next)
		for _, todo := range [][]int{h.Todo, {next(len(h.Cabins))}} {
			for who := range h.Jobs {
				if len(todo) == 0 {
					continue
				}
				h := withTodo(withJob(h, who, -1), todo...)
				first, ids := wantPick(t, h, who)
				if ids != nil || first.Jobs[who] != todo[0] || !slices.Equal(first.Todo, todo[1:]) {
					t.Errorf("the first Pick of %d turns %+v into %+v, %v", who, h, first, ids)
				}
				second, ids := wantPick(t, first, who)
				want, list := impl.Scan(withTodo(h, todo[1:]...), todo[0])
				if !houseEqual(second, want) || !slices.Equal(ids, list) {
					t.Errorf("two Picks of %d turn %+v into %+v, %v, and Scan into %+v, %v", who, h, second, ids, want, list)
				}
				due += len(dueFound(h, todo[0]))
				offers += len(ids)
				if len(ids) == 0 {
					none++
				}
			}
		}
	}
	if none < 200 || offers < 300 || due < 300 {
		t.Errorf("%d scans make no offer, the others make %d, and %d offers have expired", none, offers, due)
	}
}

// someStep performs a request that is no Pick of worker who; -1 is no worker.
func someStep(t *testing.T, next func(int) int, h impl.House, who int) impl.House {
	t.Helper()
	id := 1 + next(999)
	if len(h.Parties) > 0 {
		id = h.Parties[next(len(h.Parties))].Id
	}
	switch next(9) {
	case 0, 1:
		return wantTick(t, h)
	case 2, 3:
		return wantJoin(t, h, randomJoin(next, h))
	case 4:
		return wantFree(t, h, next(len(h.Cabins)), 1+next(5))
	case 5:
		return wantAccept(t, h, id)
	case 6:
		return wantDecline(t, h, id)
	case 7:
		return wantCancel(t, h, id)
	default:
		other := next(len(h.Jobs))
		if other != who {
			h, _ = wantPick(t, h, other)
		}
		return h
	}
}

// TestStepsBetweenTwoPicks has up to eight other requests between the two.
func TestStepsBetweenTwoPicks(t *testing.T) {
	offers, changed := 0, 0
	for seed := range 400 {
		next := mixer(seed)
		h := tieredHouse(next)
		who := next(3)
		h = withJob(h, who, -1)
		if len(h.Todo) == 0 {
			h.Todo = []int{1}
		}
		job := h.Todo[0]
		h, _ = wantPick(t, h, who)
		before := h
		for range next(9) {
			h = someStep(t, next, h, who)
			if h.Jobs[who] != job {
				t.Fatalf("the job %d of worker %d becomes %d", job, who, h.Jobs[who])
			}
		}
		if !houseEqual(h, before) {
			changed++
		}
		want, list := impl.Scan(withJob(h, who, -1), job)
		got, ids := wantPick(t, h, who)
		if !houseEqual(got, want) || !slices.Equal(ids, list) || got.Jobs[who] != -1 {
			t.Errorf("the second Pick of %d turns %+v into %+v, %v, and Scan into %+v, %v", who, h, got, ids, want, list)
		}
		offers += len(ids)
	}
	if offers < 300 || changed < 250 {
		t.Errorf("%d offers are made, and %d states change between the two", offers, changed)
	}
}

// TestPickTakes has every Todo of three cabins, and workers with other jobs.
func TestPickTakes(t *testing.T) {
	for _, todo := range todosOf(3)[1:] {
		for who := range 3 {
			for other := -1; other <= 2; other++ {
				h := houseMade(withSeats(greatestRules(), 20, 30, 40), 6, 9, peopleOf("waits", "late", "rests")...)
				h = withTodo(withJob(h, (who+1)%3, other), todo...)
				got, _ := wantPick(t, h, who)
				if got.Jobs[who] != todo[0] || got.Jobs[(who+1)%3] != other || got.Jobs[(who+2)%3] != -1 || !slices.Equal(got.Todo, todo[1:]) {
					t.Errorf("Pick of %d turns Todo %v and Jobs %v into %v and %v", who, todo, h.Jobs, got.Todo, got.Jobs)
				}
			}
		}
	}
}

// TestPickScans has a cabin that is a job, with none, one and several offers to
// be made, some that expire, and Todo empty, with that cabin and with others.
func TestPickScans(t *testing.T) {
	for _, c := range []struct {
		h    impl.House
		want []int
	}{
		{houseMade(withSeats(greatestRules(), 20, 30), 6, 9), nil},
		{fitRow(0, 1, 1), nil}, {fitRow(3, 4, 3), []int{2}}, {fitRow(6, 4, 3, 2, 1), []int{1, 3}}, {fitRow(10, 1, 2, 3, 4), []int{1, 2, 3, 4}},
		{lateRow(2, 3, 0), []int{6}}, {lateRow(0, 4, 3), []int{5}}, {lateRow(0, 2, 3), []int{5, 6}}, {lateRow(3, 6, 1), nil},
	} {
		wantHouse(t, c.h)
		for who := range 3 {
			for _, todo := range [][]int{nil, {1}, {0}, {0, 1}, {1, 0}} {
				for other := -1; other <= 1; other++ {
					h := withTodo(withJob(withJob(c.h, who, 1), (who+1)%3, other), todo...)
					got, ids := wantPick(t, h, who)
					if !slices.Equal(ids, c.want) || !slices.Equal(got.Todo, todo) || got.Jobs[who] != -1 || got.Jobs[(who+1)%3] != other {
						t.Errorf("Pick of %d turns %+v into %+v, %v, want the Ids %v", who, h, got, ids, c.want)
					}
				}
			}
		}
	}
}

// TestTwoWorkersOfOneCabin lets one scan after the other; the second one finds
// nobody.
func TestTwoWorkersOfOneCabin(t *testing.T) {
	for _, todo := range [][]int{nil, {1}, {0, 1}} {
		for who := range 2 {
			h := withTodo(withJob(withJob(fitRow(6, 4, 3, 2, 1), 0, 1), 1, 1), todo...)
			got, ids := wantPick(t, h, who)
			if !slices.Equal(ids, []int{1, 3}) || got.Jobs[who] != -1 || got.Jobs[1-who] != 1 || !slices.Equal(got.Todo, todo) {
				t.Errorf("the first worker turns %+v into %+v, %v", h, got, ids)
			}
			last, ids := wantPick(t, got, 1-who)
			if len(ids) != 0 || !houseEqual(last, withJob(got, 1-who, -1)) {
				t.Errorf("the second worker turns %+v into %+v, %v", got, last, ids)
			}
			wantIdle(t, last, len(todo) == 0)
		}
	}
}

// TestPickRejected covers each code, and which one comes first.
func TestPickRejected(t *testing.T) {
	for crew := 1; crew <= 3; crew++ {
		for _, todo := range [][]int{nil, {}, {1}, {1, 0}} {
			for job := -1; job <= 1; job++ {
				h := houseMade(withSeats(greatestRules(), 20, 30), 6, 9, peopleOf("waits", "late")...)
				h.Rules.Crew, h.Jobs = crew, slices.Repeat([]int{job}, crew)
				h.Todo = todo
				wantHouse(t, h)
				for _, who := range []int{-1, -2, math.MinInt} {
					wantNoPick(t, h, who, 3)
				}
				for _, who := range []int{10000, 1 << 32, math.MaxInt} {
					wantNoPick(t, h, who, 3, 16)
				}
				for _, who := range []int{crew, crew + 1, 99, 9998, 9999} {
					wantNoPick(t, h, who, 16)
				}
				for who := range crew {
					if job == -1 && len(todo) == 0 {
						wantNoPick(t, h, who, 17)
					} else {
						wantPick(t, h, who)
					}
				}
			}
		}
	}
}

// TestPickOfTheOther has one worker with a job and one without, and nothing to
// do.
func TestPickOfTheOther(t *testing.T) {
	for who := range 2 {
		h := withTodo(withJob(withJob(needHouse(), who, -1), 1-who, 2))
		wantNoPick(t, h, who, 17)
		got, _ := wantPick(t, h, 1-who)
		wantNoPick(t, got, 0, 17)
		wantNoPick(t, got, 1, 17)
		wantIdle(t, got, true)
	}
}

func TestLate(t *testing.T) {
	wantLate(t, newHouse(plainRules()))
	wantLate(t, needHouse(), 7, 8, 9)
	wantLate(t, handHouse())
	for until := 1; until <= 14; until++ {
		p := impl.Party{Id: 4, Cabin: 1, From: -1, Size: 2, Turn: 1, State: 2, Until: until}
		h := houseMade(withSeats(greatestRules(), 20, 30), 6, 9, p)
		wantHouse(t, h)
		if until <= 6 {
			wantLate(t, h, 4)
		} else {
			wantLate(t, h)
		}
		p.State = 1
		wantLate(t, houseMade(h.Rules, 6, 9, p))
	}
	list := []impl.Party{
		{Id: 1, Cabin: 3, From: -1, Size: 1, Turn: 6, State: 2, Until: 6},
		{Id: 2, Cabin: 0, From: -1, Size: 1, Turn: 5, State: 2, Until: 7},
		{Id: 30, Cabin: 2, From: -1, Size: 1, Turn: 1, State: 2, Until: 5},
		{Id: 31, Cabin: 1, From: -1, Size: 1, Turn: 2, State: 1, Until: 3},
		{Id: 200, Cabin: 1, From: -1, Size: 1, Turn: 4, State: 2, Until: 1},
		{Id: 900, Cabin: 0, From: -1, Size: 1, Turn: 3, State: 2, Until: 6},
		{Id: 999, Cabin: 0, From: -1, Size: 1, Turn: 7, State: 2, Until: 2},
	}
	h := houseMade(withSeats(greatestRules(), 20, 30, 40, 50), 6, 9, list...)
	wantHouse(t, h)
	wantLate(t, h, 1, 30, 200, 900, 999)
	wantLate(t, atTick(h, 7), 1, 2, 30, 200, 900, 999)
	for _, order := range ordersOf(4) {
		got := h
		for _, cabin := range order {
			got, _ = impl.Scan(got, cabin)
			wantLate(t, got, lateFound(got)...)
		}
		wantLate(t, got)
	}
}

func TestLateOfSomeHouses(t *testing.T) {
	found := 0
	for seed := range 150 {
		h := scarceHouse(mixer(seed))
		want := lateFound(h)
		wantLate(t, h, want...)
		found += len(want)
		for cabin := range h.Cabins {
			h, _ = impl.Scan(h, cabin)
		}
		wantLate(t, h)
	}
	if found < 100 {
		t.Errorf("only %d offers have expired", found)
	}
}

func TestIdle(t *testing.T) {
	for crew := 1; crew <= 3; crew++ {
		r := withSeats(greatestRules(), 20, 30, 40)
		r.Crew = crew
		for _, h := range []impl.House{newHouse(r), houseMade(r, 6, 9, peopleOf("waits", "late", "rests")...)} {
			wantIdle(t, h, true)
			wantIdle(t, atTick(h, 1000000), true)
			wantIdle(t, withTodo(h, []int{}...), true)
			for _, todo := range todosOf(3)[1:] {
				wantIdle(t, withTodo(h, todo...), false)
			}
			for who := range crew {
				for job := range 3 {
					wantIdle(t, withJob(h, who, job), false)
					wantIdle(t, withTodo(withJob(h, who, job), 1), false)
				}
			}
			wantIdle(t, brokenHouse(h), false)
			wantIdle(t, withJob(h, 0, -2), false)
			wantIdle(t, withJob(h, 0, 3), false)
			h.Turn = 0
			wantIdle(t, h, false)
		}
	}
	for _, h := range someHouses() {
		wantIdle(t, nothingToDo(h), true)
	}
	for _, h := range badHouses() {
		wantIdle(t, h, false)
		if len(h.Jobs) > 0 && len(houseFaults(nothingToDo(h))) > 0 {
			wantIdle(t, nothingToDo(h), false)
		}
	}
	wantIdle(t, impl.House{}, false)
}

func TestAgedByHand(t *testing.T) {
	h := handHouse()
	one, four, five, six := impl.Entry{Level: 2, Turn: 8, Id: 1, Size: 4}, impl.Entry{Level: 1, Turn: 4, Id: 4, Size: 2}, impl.Entry{Level: 1, Turn: 3, Id: 5, Size: 2}, impl.Entry{Level: 1, Turn: 5, Id: 6, Size: 1}
	wantAged(t, h, 7, five, one, four, six)
	four.Level = 0
	wantAged(t, h, 8, five, one, four, six)
	six.Level = 0
	wantAged(t, h, 9, five, one, four, six)
	one.Level = 1
	wantAged(t, h, 11, five, one, four, six)
	five.Level = 0
	wantAged(t, h, 12, five, one, four, six)
	one.Level = 0
	for _, now := range []int{16, 17, 500, 999999, 1000000} {
		wantAged(t, h, now, five, one, four, six)
	}
	for _, now := range append(extremes(), 6, 5, 0, -1, -7, 1000001, 1<<32+7) {
		wantAged(t, h, now)
	}
}

// TestAged has each tick from Now on, and ticks that are before it or too late.
func TestAged(t *testing.T) {
	entries, resting := 0, 0
	for seed := range 200 {
		h := tieredHouse(mixer(seed))
		var rows, all []impl.Entry
		for cabin, c := range h.Cabins {
			rows = append(rows, c.Row...)
			level := slices.Clone(rowFound(h, cabin, 1000000))
			slices.SortFunc(level, func(a, b impl.Entry) int { return a.Turn - b.Turn })
			for i := range level {
				level[i].Level = 0
			}
			all = append(all, level...)
		}
		wantAged(t, h, h.Now, rows...)
		for later := range 30 {
			wantAged(t, h, h.Now+later, agedFound(h, h.Now+later)...)
		}
		for _, now := range []int{h.Now + 60, 1000, 999999, 1000000} {
			wantAged(t, h, now, all...)
		}
		for _, now := range append(extremes(), h.Now-1, h.Now-2, 0, -1, 1000001, 1<<32+h.Now) {
			wantAged(t, h, now)
			wantAged(t, brokenHouse(h), now)
		}
		wantAged(t, brokenHouse(h), h.Now)
		for _, p := range h.Parties {
			at := slices.IndexFunc(impl.Aged(h, h.Now+1), func(e impl.Entry) bool { return e.Id == p.Id })
			if p.State == 2 && at >= 0 || p.State == 1 && at < 0 {
				t.Errorf("%+v has the place %d in Aged", p, at)
			}
			if p.State == 1 && p.Until > h.Now+1 {
				resting++
			}
		}
		entries += len(rows)
	}
	if entries < 400 || resting < 100 {
		t.Errorf("%d entries and %d parties that rest", entries, resting)
	}
}

// TestAgedIsTheRowsAfterTicks compares with ticks one by one.
func TestAgedIsTheRowsAfterTicks(t *testing.T) {
	for seed := range 40 {
		first := tieredHouse(mixer(seed))
		h := first
		for range 20 {
			h, _ = impl.Tick(h)
			var rows []impl.Entry
			for _, c := range h.Cabins {
				rows = append(rows, c.Row...)
			}
			wantAged(t, first, h.Now, rows...)
		}
	}
}

// TestAgedAtTheEnds has Now of 0 and of the last tick.
func TestAgedAtTheEnds(t *testing.T) {
	h := fitRow(0, 1, 2)
	wantAged(t, h, 0, h.Cabins[1].Row...)
	wantAged(t, h, -1)
	last := atTick(h, 1000000)
	wantAged(t, last, 1000000, last.Cabins[1].Row...)
	wantAged(t, last, 999999)
	wantAged(t, last, 1000001)
	wantAged(t, newHouse(plainRules()), 5)
}

// TestCrewOfInvalidHouses covers all functions of the layer.
func TestCrewOfInvalidHouses(t *testing.T) {
	for _, h := range append(badHouses(), brokenHouse(needHouse()), brokenHouse(lateRow(0, 1, 5)), brokenHouse(withTodo(handHouse()))) {
		wantHouseOk(t, h, false)
		got, code := impl.Tick(h)
		wantStep(t, "Tick", h, tickReq(), got, code, h, 1)
		for who := -2; who <= 4; who++ {
			got, code, ids := impl.Pick(h, who)
			wantStep(t, "Pick", h, pickReq(who), got, code, h, 1)
			if ids != nil {
				t.Errorf("Pick of %d in %+v has the Ids %v", who, h, ids)
			}
		}
		wantLate(t, h)
		wantIdle(t, h, false)
		for _, now := range append(extremes(), h.Now-1, h.Now, h.Now+1, 0, 1000000) {
			wantAged(t, h, now)
		}
	}
}

// TestRequestsInAnyOrder runs histories of all the requests that there are.
func TestRequestsInAnyOrder(t *testing.T) {
	offers, ticks, idle := 0, 0, 0
	for seed := range 50 {
		next := mixer(seed)
		h, _ := impl.HouseNew(randomRules(next))
		for range 100 {
			was := h.Now
			if next(3) > 0 {
				h = someStep(t, next, h, -1)
			} else {
				var ids []int
				h, ids = wantPick(t, h, next(h.Rules.Crew+1))
				offers += len(ids)
			}
			ticks += h.Now - was
			wantHouse(t, h)
			wantLate(t, h, lateFound(h)...)
			wantIdle(t, h, len(h.Todo) == 0 && slices.Equal(h.Jobs, noJobs(h.Rules.Crew)))
			if impl.Idle(h) {
				idle++
			}
		}
	}
	if offers < 200 || ticks < 400 || idle < 100 {
		t.Errorf("%d offers, %d ticks, and %d times nothing is to be done", offers, ticks, idle)
	}
}

// TestWorkersFinish lets the workers pick until nothing is left to do: then no
// party that fits is without an offer.
func TestWorkersFinish(t *testing.T) {
	for seed := range 100 {
		next := mixer(seed)
		h := wantTick(t, tieredHouse(next))
		for range 40 {
			h, _ = wantPick(t, h, next(len(h.Jobs)))
		}
		for who := range h.Jobs {
			if h.Jobs[who] != -1 {
				h, _ = wantPick(t, h, who)
			}
		}
		wantIdle(t, h, true)
		for cabin := range h.Cabins {
			if countSum(h.Parties, cabin) > 0 {
				wantNobodyLeft(t, h, cabin)
			}
		}
	}
}

// stepsOf are the states that the functions of this layer make.
func stepsOf(h impl.House) ([]impl.House, []int) {
	after, code := impl.Tick(h)
	list, nums := []impl.House{after}, []int{code}
	for _, who := range []int{-1, 0, 1, 2, 3, 10000} {
		after, code, ids := impl.Pick(h, who)
		list, nums = append(list, after), append(append(nums, code), ids...)
	}
	return list, nums
}

// withJobs has these jobs in turn.
func withJobs(h impl.House, jobs ...int) impl.House {
	h.Jobs = slices.Clone(h.Jobs)
	for who := range h.Jobs {
		h.Jobs[who] = jobs[who%len(jobs)]
	}
	return h
}

func wantOwnEntries(t *testing.T, list []impl.Entry, h impl.House) {
	t.Helper()
	cells := cellsOf(h)
	for at := range list[:cap(list)] {
		if cells[&list[:cap(list)][at]] > 0 {
			t.Errorf("%v shares memory with %+v", list, h)
			return
		}
	}
}

// TestCrewArgumentsAreKept covers the unused capacity of every slice, and the
// memory of the results.
func TestCrewArgumentsAreKept(t *testing.T) {
	changed, same := 0, 0
	for _, kept := range keptHouses() {
		for _, h := range []impl.House{kept, withTodo(withJobs(kept, -1), 0), withJobs(kept, 1, 0), withTodo(withJobs(kept, -1, 1), 1, 0), withTodo(withJobs(kept, -1))} {
			room := roomyHouse(h)
			was := memoryOf(room)
			got, nums := stepsOf(room)
			want, wantNums := stepsOf(h)
			if !slices.Equal(nums, wantNums) || !slices.EqualFunc(got, want, houseEqual) {
				t.Errorf("the capacity of %+v is read: %+v, %v, want %+v, %v", room, got, nums, want, wantNums)
			}
			for _, after := range got {
				wantOwnMemory(t, after, room)
				if houseEqual(after, h) {
					same++
				} else {
					changed++
				}
			}
			for who := range h.Jobs {
				after, _, ids := impl.Pick(room, who)
				wantOwnNums(t, ids, room, after)
			}
			wantOwnNums(t, impl.Late(room), room)
			wantLate(t, room, impl.Late(h)...)
			wantIdle(t, room, impl.Idle(h))
			for _, now := range []int{h.Now, h.Now + 1} {
				wantOwnEntries(t, impl.Aged(room, now), room)
				wantAged(t, room, now, impl.Aged(h, now)...)
			}
			if now := memoryOf(room); !reflect.DeepEqual(now, was) {
				t.Fatalf("the state %+v became %+v", was, now)
			}
		}
	}
	if changed < 300 || same < 1000 {
		t.Errorf("%d results are changed and %d are not", changed, same)
	}
}

// TestCrewResultsCanBeChanged writes to the results, which changes neither the
// argument nor the result of another call.
func TestCrewResultsCanBeChanged(t *testing.T) {
	for _, h := range []impl.House{handHouse(), withTodo(needHouse(), 1, 2), brokenHouse(needHouse()), chainHouse(2), newHouse(plainRules()), withJobs(lateRow(0, 2, 3), 1), withJobs(fitRow(9, 4, 4, 1), 1), offersHouse([]int{-1}, 5, 6, 1)} {
		kept := emptied(h)
		kept.Rules.Seats = slices.Clone(h.Rules.Seats)
		one, nums := stepsOf(h)
		two, _ := stepsOf(h)
		late, aged := impl.Late(h), impl.Aged(h, h.Now)
		lateWas, agedWas := slices.Clone(late), slices.Clone(aged)
		full, _, ids := impl.Pick(h, 1)
		for _, got := range one {
			for _, spoil := range houseParts(got) {
				spoil()
			}
		}
		spoilNums(late)
		spoilNums(ids)
		spoilEntries(aged)
		again, numsAgain := stepsOf(h)
		if !houseEqual(h, kept) || !slices.EqualFunc(two, again, houseEqual) || !slices.Equal(nums, numsAgain) || !houseEqual(full, again[3]) {
			t.Errorf("%+v: the results share memory", h)
		}
		wantLate(t, h, lateWas...)
		wantAged(t, h, h.Now, agedWas...)
	}
}

// TestCrewOfSharedLists has an argument whose lists share memory.
func TestCrewOfSharedLists(t *testing.T) {
	h := sharingHouse()
	list, _ := stepsOf(h)
	for _, got := range list {
		wantOwnMemory(t, got, h)
	}
	wantTick(t, h)
	for who := range h.Jobs {
		got, _ := wantPick(t, h, who)
		step := wantTick(t, wantJoin(t, wantFree(t, got, 1, 1), joinReq(8, 1, -1, 1, 1)))
		more, _ := stepsOf(step)
		for _, after := range more {
			wantOwnMemory(t, after, h)
			wantOwnMemory(t, after, step)
		}
	}
	wantHouse(t, h)
}

// TestCrewNeverPanics has numbers that are no worker and no tick.
func TestCrewNeverPanics(t *testing.T) {
	edges := append(extremes(), -2, -1, 0, 1, 2, 3, 4, 999, 9999, 10000, 999999, 1000000, 1000001)
	for _, h := range append(append(badHouses()[:20], someHouses()[:8]...), impl.House{}) {
		for _, n := range edges {
			wantPick(t, h, n)
			impl.Aged(h, n)
			other := h
			other.Now = n
			impl.Tick(other)
			impl.Late(other)
			impl.Aged(other, n)
			if len(h.Jobs) > 0 {
				impl.Pick(withJob(h, 0, n), 0)
				impl.Idle(withJob(h, 0, n))
			}
			impl.Pick(withTodo(h, n), 0)
			impl.Tick(withTodo(h, n))
		}
	}
}

// TestCrewLeavesNoGoroutine counts the goroutines after many calls.
func TestCrewLeavesNoGoroutine(t *testing.T) {
	before := runtime.NumGoroutine()
	for _, h := range append(someHouses(), badHouses()[:20]...) {
		for range 20 {
			stepsOf(h)
			impl.Late(h)
			impl.Idle(h)
			impl.Aged(h, h.Now)
		}
		if after := runtime.NumGoroutine(); after > before {
			t.Fatalf("%d goroutines before the calls, and %d after them", before, after)
		}
	}
}
