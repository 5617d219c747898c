package tests

import (
	"math"
	"reflect"
	"slices"
	"testing"

	"loop.example/g00494/impl"
)

// handHouse has the parties and the cabins that were made by hand for each
// other; the Turns of the parties are 1 to 9.
func handHouse() impl.House {
	return impl.House{
		Rules: cabinRules(), Now: cabinTick, Turn: 10,
		Parties: cabinParties(), Cabins: threeCabins(), Todo: []int{2, 0}, Jobs: []int{-1, 1},
	}
}

// houseMade has the cabins that the parties make, whether or not the result is
// valid. Half of the seats that the parties do not need are free.
func houseMade(r impl.Rules, now, turn int, list ...impl.Party) impl.House {
	h := impl.House{Rules: r, Now: now, Turn: turn, Parties: list, Jobs: noJobs(r.Crew)}
	for cabin, total := range r.Seats {
		held, tied := heldSum(list, cabin), tiedSum(list, cabin)
		free := max(total-held-tied, 0) / 2
		h.Cabins = append(h.Cabins, impl.Cabin{
			Seats: ledger(total, free, held, total-free-held, tied),
			Row:   impl.QueueOf(r, list, cabin, now),
			Wheel: wheel(pinsFound(list, cabin)...),
		})
	}
	return h
}

func noJobs(crew int) []int {
	if crew < 0 || crew > 1000 {
		return nil
	}
	return slices.Repeat([]int{-1}, crew)
}

// newHouse is the document's HouseNew of valid rules, written out.
func newHouse(r impl.Rules) impl.House {
	h := impl.House{Rules: r, Turn: 1, Jobs: noJobs(r.Crew)}
	for _, total := range r.Seats {
		h.Cabins = append(h.Cabins, impl.Cabin{Seats: ledger(total, 0, 0, total, 0), Wheel: noPins()})
	}
	return h
}

// remade has other parties and the cabins that they make.
func remade(h impl.House, list ...impl.Party) impl.House {
	other := houseMade(h.Rules, h.Now, h.Turn, list...)
	other.Todo, other.Jobs = h.Todo, h.Jobs
	return other
}

func withCabin(h impl.House, at int, c impl.Cabin) impl.House {
	h.Cabins = slices.Clone(h.Cabins)
	h.Cabins[at] = c
	return h
}

func withParty(list []impl.Party, at int, p impl.Party) []impl.Party {
	list = slices.Clone(list)
	list[at] = p
	return list
}

// contradicts is where, of two parties, the one with the smaller Turn has a
// greater Since.
func contradicts(p, q impl.Party) bool {
	return p.Turn < q.Turn && p.Since > q.Since || q.Turn < p.Turn && q.Since > p.Since
}

// houseFaults names the conditions of the document's HouseOk that fail.
func houseFaults(h impl.House) []string {
	var faults []string
	need := func(name string, ok bool) {
		if !ok && !slices.Contains(faults, name) {
			faults = append(faults, name)
		}
	}
	need("rules", impl.RulesOk(h.Rules))
	need("now", h.Now >= 0 && h.Now <= 1000000)
	need("turn", h.Turn >= 1 && h.Turn <= 1000001)
	for i, p := range h.Parties {
		need("party", impl.PartyOk(h.Rules, p, h.Now))
		need("later turn", p.Turn < h.Turn)
		for _, q := range h.Parties[i+1:] {
			need("ids", p.Id < q.Id)
			need("turns", p.Turn != q.Turn)
			need("ticks", !contradicts(p, q))
		}
	}
	need("cabins", len(h.Cabins) == len(h.Rules.Seats))
	for i, c := range h.Cabins {
		need("total", i >= len(h.Rules.Seats) || c.Seats.Total == h.Rules.Seats[i])
		need("agrees", agreed(h.Rules, c, h.Parties, i, h.Now))
		need("room", countSum(h.Parties, i) <= h.Rules.Room)
	}
	for i, cabin := range h.Todo {
		need("todo", cabin >= 0 && cabin < len(h.Rules.Seats) && !slices.Contains(h.Todo[:i], cabin))
	}
	need("jobs", len(h.Jobs) == h.Rules.Crew)
	for _, job := range h.Jobs {
		need("jobs", job >= -1 && job < len(h.Rules.Seats))
	}
	return faults
}

// wantHouse also checks that the conditions that fail are the ones that the
// test means.
func wantHouse(t *testing.T, h impl.House, faults ...string) {
	t.Helper()
	if found := houseFaults(h); !slices.Equal(found, faults) {
		t.Errorf("%+v fails %q, the test means %q", h, found, faults)
	}
	wantHouseOk(t, h, len(faults) == 0)
}

func wantHouseOk(t *testing.T, h impl.House, want bool) {
	t.Helper()
	if got := impl.HouseOk(h); got != want {
		t.Errorf("HouseOk(%+v) = %v, want %v", h, got, want)
	}
}

func houseEqual(a, b impl.House) bool {
	return rulesEqual(a.Rules, b.Rules) && a.Now == b.Now && a.Turn == b.Turn &&
		slices.Equal(a.Parties, b.Parties) && slices.EqualFunc(a.Cabins, b.Cabins, cabinEqual) &&
		slices.Equal(a.Todo, b.Todo) && slices.Equal(a.Jobs, b.Jobs)
}

// wantSameHouse is the result for a and b, and for b and a.
func wantSameHouse(t *testing.T, a, b impl.House, want bool) {
	t.Helper()
	if got := impl.SameHouse(a, b); got != want {
		t.Errorf("SameHouse(%+v, %+v) = %v, want %v", a, b, got, want)
	}
	if got := impl.SameHouse(b, a); got != want {
		t.Errorf("SameHouse(%+v, %+v) = %v, want %v", b, a, got, want)
	}
}

func placeFound(list []impl.Party, id int) int {
	for i, p := range list {
		if p.Id == id {
			return i
		}
	}
	return -1
}

func wantPartyAt(t *testing.T, list []impl.Party, id, want int) {
	t.Helper()
	if got := impl.PartyAt(impl.House{Parties: list}, id); got != want {
		t.Errorf("PartyAt(%+v, %d) = %d, want %d", list, id, got, want)
	}
}

// putInto is the document's PartyPut, written out.
func putInto(list []impl.Party, p impl.Party) []impl.Party {
	if at := placeFound(list, p.Id); at >= 0 {
		return withParty(list, at, p)
	}
	var out []impl.Party
	put := false
	for _, other := range list {
		if !put && other.Id > p.Id {
			out, put = append(out, p), true
		}
		out = append(out, other)
	}
	if !put {
		out = append(out, p)
	}
	return out
}

// cutFrom is the document's PartyCut, written out.
func cutFrom(list []impl.Party, id int) []impl.Party {
	var out []impl.Party
	at := placeFound(list, id)
	for i, p := range list {
		if i != at {
			out = append(out, p)
		}
	}
	return out
}

func wantPartyPut(t *testing.T, list []impl.Party, p impl.Party, want []impl.Party) {
	t.Helper()
	if got := impl.PartyPut(list, p); !slices.Equal(got, want) {
		t.Errorf("PartyPut(%+v, %+v) = %+v, want %+v", list, p, got, want)
	}
}

func wantPartyCut(t *testing.T, list []impl.Party, id int, want []impl.Party) {
	t.Helper()
	if got := impl.PartyCut(list, id); !slices.Equal(got, want) {
		t.Errorf("PartyCut(%+v, %d) = %+v, want %+v", list, id, got, want)
	}
}

func wantTodoPut(t *testing.T, list []int, cabin int, want ...int) {
	t.Helper()
	if got := impl.TodoPut(list, cabin); !slices.Equal(got, want) {
		t.Errorf("TodoPut(%v, %d) = %v, want %v", list, cabin, got, want)
	}
}

// named are parties with these Ids, each with its place in its other fields.
func named(ids ...int) []impl.Party {
	var list []impl.Party
	for i, id := range ids {
		list = append(list, impl.Party{Id: id, Cabin: i, From: -1, Size: 1 + i, Turn: 10 + i, State: 1 + i%2, Until: i})
	}
	return list
}

func ordersOf(n int) [][]int {
	if n == 0 {
		return [][]int{nil}
	}
	var out [][]int
	for _, order := range ordersOf(n - 1) {
		for at := range n {
			out = append(out, slices.Insert(slices.Clone(order), at, n-1))
		}
	}
	return out
}

func TestHouseNew(t *testing.T) {
	for _, r := range okRules() {
		h, ok := impl.HouseNew(r)
		if !ok || !houseEqual(h, newHouse(r)) {
			t.Errorf("HouseNew(%v) = %+v, %v, want %+v, true", r, h, ok, newHouse(r))
		}
		wantHouse(t, h)
		again, _ := impl.HouseNew(r)
		wantSameHouse(t, h, again, true)
	}
	for _, r := range badRules() {
		if h, ok := impl.HouseNew(r); ok || !houseEqual(h, impl.House{}) {
			t.Errorf("HouseNew(%v) = %+v, %v, want the zero House and false", r, h, ok)
		}
	}
}

// TestHouseNewAtBounds has the numbers of a new state one by one.
func TestHouseNewAtBounds(t *testing.T) {
	for _, seats := range [][]int{{1}, {60}, {1, 60}, {7, 8, 9}, {60, 60, 60, 60}, {1, 2, 3, 4}} {
		for crew := 1; crew <= 3; crew++ {
			for tiers := 1; tiers <= 5; tiers++ {
				r := withSeats(cabinRules(), seats...)
				r.Crew, r.Tiers = crew, tiers
				h, ok := impl.HouseNew(r)
				if !ok || h.Now != 0 || h.Turn != 1 || len(h.Parties) != 0 || len(h.Todo) != 0 || len(h.Jobs) != crew || len(h.Cabins) != len(seats) {
					t.Fatalf("HouseNew(%v) = %+v, %v", r, h, ok)
				}
				for _, job := range h.Jobs {
					if job != -1 {
						t.Errorf("HouseNew(%v) has the job %d", r, job)
					}
				}
				for at, c := range h.Cabins {
					if c.Seats != ledger(seats[at], 0, 0, seats[at], 0) || len(c.Row) != 0 || len(c.Wheel.Spoke) != 9 || len(allPins(c.Wheel)) != 0 {
						t.Errorf("HouseNew(%v) has the cabin %+v", r, c)
					}
				}
				if h.Rules.Tiers != tiers || !slices.Equal(h.Rules.Seats, seats) {
					t.Errorf("HouseNew(%v) has the rules %v", r, h.Rules)
				}
			}
		}
	}
	for _, r := range []impl.Rules{withSeats(cabinRules()), withSeats(cabinRules(), 0), withSeats(cabinRules(), 61), withSeats(cabinRules(), 9, 0), withSeats(cabinRules(), 1, 1, 1, 1, 1)} {
		if h, ok := impl.HouseNew(r); ok || !houseEqual(h, impl.House{}) {
			t.Errorf("HouseNew(%v) = %+v, %v, want the zero House and false", r, h, ok)
		}
	}
}

func TestHouseOk(t *testing.T) {
	wantHouse(t, handHouse())
	wantHouse(t, newHouse(plainRules()))
	wantHouse(t, newHouse(leastRules()))
	wantHouse(t, newHouse(greatestRules()))
	wantHouse(t, houseMade(cabinRules(), cabinTick, 10, cabinParties()...))
	wantHouseOk(t, impl.House{}, false)
	wantHouseOk(t, impl.House{Now: 1, Turn: 1}, false)
}

// TestHouseRules has rules that are not RulesOk, with all that they ask for:
// as many cabins and workers.
func TestHouseRules(t *testing.T) {
	for _, r := range okRules() {
		wantHouse(t, newHouse(r))
	}
	for _, r := range badRules() {
		h := newHouse(r)
		wantHouseOk(t, h, false)
		seatsOk := !slices.ContainsFunc(r.Seats, func(n int) bool { return n < 1 || n > 60 })
		if seatsOk && len(h.Jobs) == r.Crew && r.Room >= 0 {
			wantHouse(t, h, "rules")
		}
	}
	for _, f := range ruleFields() {
		r := withField(cabinRules(), f, f.most+1)
		h := newHouse(r)
		wantHouse(t, h, "rules")
		h.Rules = withField(r, f, f.most)
		h.Jobs = noJobs(h.Rules.Crew)
		wantHouse(t, h)
	}
}

func TestHouseNow(t *testing.T) {
	for _, now := range []int{0, 1, 2, 9, 999999, 1000000} {
		h := newHouse(plainRules())
		h.Now = now
		wantHouse(t, h)
		p := impl.Party{Id: 4, Cabin: 1, From: 0, Size: 2, Tier: 0, Since: now, Turn: 1, State: 2, Until: now + 3}
		q := impl.Party{Id: 5, Cabin: 1, From: 0, Size: 2, Tier: 2, Since: now, Turn: 2, State: 1, Until: now + 2}
		wantHouse(t, houseMade(plainRules(), now, 3, p, q))
	}
	for _, now := range append(wrongTicks(), extremes()...) {
		h := newHouse(plainRules())
		h.Now = now
		wantHouse(t, h, "now")
	}
}

// TestHouseOtherTick keeps the rows while Now changes: they agree as long as no
// level falls and no party becomes invalid.
func TestHouseOtherTick(t *testing.T) {
	h := handHouse()
	for now := -2; now <= 60; now++ {
		h.Now = now
		wantHouseOk(t, h, now == cabinTick)
	}
	h.Now = cabinTick + 1
	wantHouse(t, h, "agrees")
	wantHouse(t, remade(h, cabinParties()...))
}

func TestHouseTurn(t *testing.T) {
	for _, turn := range []int{1, 2, 10, 999999, 1000000, 1000001} {
		h := newHouse(plainRules())
		h.Turn = turn
		wantHouse(t, h)
		for _, other := range []int{turn, turn + 1, 1000001} {
			p := impl.Party{Id: 4, Cabin: 1, From: -1, Size: 2, Turn: max(turn-1, 1), State: 1}
			if other > p.Turn && other <= 1000001 {
				wantHouse(t, houseMade(plainRules(), 0, other, p))
			}
		}
	}
	for _, turn := range append(extremes(), 0, -1, -1000000, 1000002, 1000003, 1<<32+1, -1<<32+1) {
		h := newHouse(plainRules())
		h.Turn = turn
		wantHouse(t, h, "turn")
		if turn > 0 {
			h = handHouse()
			h.Turn = turn
			wantHouse(t, h, "turn")
		}
	}
	for turn := -3; turn <= 20; turn++ {
		h := handHouse()
		h.Turn = turn
		wantHouseOk(t, h, turn >= 10)
		if turn >= 1 && turn < 10 {
			wantHouse(t, h, "later turn")
		}
	}
}

// TestHouseLaterTurn gives one party a Turn that is not less than that of the
// state; the party joined at the last tick, so nothing else is wrong.
func TestHouseLaterTurn(t *testing.T) {
	h := handHouse()
	for at, p := range h.Parties {
		for turn := 10; turn <= 13; turn++ {
			other := p
			other.Turn, other.Since = turn, cabinTick
			changed := remade(h, withParty(h.Parties, at, other)...)
			wantHouse(t, changed, "later turn")
			changed.Turn = turn
			wantHouse(t, changed, "later turn")
			changed.Turn = turn + 1
			wantHouse(t, changed)
		}
	}
}

// TestHouseInvalidParty changes one field of one party so that it is not
// PartyOk, and makes the cabins of the changed parties.
func TestHouseInvalidParty(t *testing.T) {
	h := houseMade(cabinRules(), cabinTick, 1000001,
		impl.Party{Id: 1, Cabin: 1, From: 0, Size: 1, Tier: 1, Since: 0, Turn: 1, State: 1, Until: 3, Asked: 1},
		impl.Party{Id: 2, Cabin: 0, From: -1, Size: 2, Tier: 2, Since: 3, Turn: 2, State: 2, Until: 5, Asked: 0},
		impl.Party{Id: 998, Cabin: 2, From: 1, Size: 2, Tier: 0, Since: 3, Turn: 5, State: 1, Until: 0, Asked: 2},
		impl.Party{Id: 999, Cabin: 1, From: 2, Size: 4, Tier: 2, Since: 7, Turn: 1000000, State: 2, Until: 10, Asked: 1})
	wantHouse(t, h)
	alone := map[string]int{}
	for at, p := range h.Parties {
		for _, f := range allPartyFields(h.Rules, h.Now) {
			for _, n := range append(extremes(), -2, -1, 0, 1, 2, 3, 4, 5, 8, 9, 10, 11, 999, 1000, 1000000, 1000001) {
				changed := remade(h, withParty(h.Parties, at, withPartyField(p, f, n))...)
				faults := houseFaults(changed)
				wantHouseOk(t, changed, len(faults) == 0)
				if slices.Equal(faults, []string{"party"}) {
					alone[f.name]++
				}
			}
		}
	}
	for _, f := range allPartyFields(h.Rules, h.Now) {
		if alone[f.name] == 0 {
			t.Errorf("no party is invalid by its %s alone", f.name)
		}
	}
}

// TestHouseOffersRun has offers at every tick up to the one at which they
// expire, and at the next; and rests in the same way.
func TestHouseOffersRun(t *testing.T) {
	for _, r := range []impl.Rules{plainRules(), greatestRules(), leastRules()} {
		for _, now := range []int{0, 1, 5, 12, 999999, 1000000} {
			for until := max(now-12, 0); until <= now+12; until++ {
				offered := impl.Party{Id: 7, Cabin: 0, From: -1, Size: 1, Since: now, Turn: 1, State: 2, Until: until}
				waits := impl.Party{Id: 7, Cabin: 0, From: -1, Size: 1, Since: now, Turn: 1, State: 1, Until: until}
				if until >= 1 && until <= now+r.Window {
					wantHouse(t, houseMade(r, now, 2, offered))
				} else if until >= 1 && now < 999999 {
					wantHouse(t, houseMade(r, now, 2, offered), "party")
				}
				if until <= now+r.Rest {
					wantHouse(t, houseMade(r, now, 2, waits))
				} else {
					wantHouse(t, houseMade(r, now, 2, waits), "party")
				}
			}
		}
	}
}

// TestHouseIds has parties of different cabins, whose Ids are equal or descend.
func TestHouseIds(t *testing.T) {
	for one := 1; one <= 6; one++ {
		for two := 1; two <= 6; two++ {
			for three := 1; three <= 6; three++ {
				list := []impl.Party{
					{Id: one, Cabin: 0, From: -1, Size: 1, Turn: 1, State: 1},
					{Id: two, Cabin: 1, From: -1, Size: 1, Turn: 2, State: 2, Until: 2},
					{Id: three, Cabin: 2, From: -1, Size: 1, Turn: 3, State: 1},
				}
				h := houseMade(cabinRules(), 0, 4, list...)
				if one < two && two < three {
					wantHouse(t, h)
				} else {
					wantHouse(t, h, "ids")
				}
			}
		}
	}
	h := handHouse()
	for i := range h.Parties {
		for j := range i {
			list := cabinParties()
			list[i], list[j] = list[j], list[i]
			changed := h
			changed.Parties = list
			wantHouse(t, changed, "ids")
		}
	}
	h.Parties = cabinParties()
	slices.Reverse(h.Parties)
	wantHouse(t, h, "ids")
}

// TestHouseTurns has Turns that are equal, in one cabin and in two, of parties
// that joined at the same tick.
func TestHouseTurns(t *testing.T) {
	for cabin := range 3 {
		for state := 1; state <= 2; state++ {
			for one := 1; one <= 4; one++ {
				for two := 1; two <= 4; two++ {
					list := []impl.Party{
						{Id: 1, Cabin: 0, From: -1, Size: 1, Since: 2, Turn: one, State: 2, Until: 3},
						{Id: 5, Cabin: cabin, From: -1, Size: 1, Since: 2, Turn: two, State: state, Until: 3},
					}
					h := houseMade(cabinRules(), 2, 5, list...)
					if one == two {
						wantHouse(t, h, "turns")
					} else {
						wantHouse(t, h)
					}
				}
			}
		}
	}
}

// TestHouseTurnsAndTicks is about Turns that contradict ticks: for each order
// of the Turns among the Ids, with each tick of joining.
func TestHouseTurnsAndTicks(t *testing.T) {
	right, wrong := 0, 0
	for _, turns := range ordersOf(4) {
		for ticks := range 3 * 3 * 3 * 3 {
			var list []impl.Party
			for i, turn := range turns {
				p := impl.Party{Id: 10 + i, Cabin: i % 3, From: -1, Size: 1, Tier: 1, Since: ticks % 3, Turn: 5 + 3*turn, State: 1 + i/2, Until: 2}
				ticks /= 3
				list = append(list, p)
			}
			h := houseMade(cabinRules(), 2, 20, list...)
			if faults := houseFaults(h); len(faults) == 0 {
				wantHouse(t, h)
				right++
			} else {
				wantHouse(t, h, "ticks")
				wrong++
			}
		}
	}
	if right != 24*15 || wrong != 24*66 {
		t.Errorf("%d states are right and %d wrong", right, wrong)
	}
}

// TestHouseTurnsAndTicksOfTwo has every two ticks of two parties.
func TestHouseTurnsAndTicksOfTwo(t *testing.T) {
	for first := range 6 {
		for second := range 6 {
			for state := 1; state <= 2; state++ {
				for cabin := range 2 {
					older := impl.Party{Id: 1, Cabin: 1, From: -1, Size: 1, Tier: 1, Since: first, Turn: 3, State: state, Until: 1}
					newer := impl.Party{Id: 2, Cabin: cabin, From: 2, Size: 1, Tier: 1, Since: second, Turn: 4, State: 1}
					rising := houseMade(cabinRules(), 5, 5, older, newer)
					older.Id, newer.Id = 9, 8
					falling := houseMade(cabinRules(), 5, 5, newer, older)
					if first > second {
						wantHouse(t, rising, "ticks")
						wantHouse(t, falling, "ticks")
					} else {
						wantHouse(t, rising)
						wantHouse(t, falling)
					}
				}
			}
		}
	}
}

func TestHouseCabins(t *testing.T) {
	for _, r := range []impl.Rules{leastRules(), plainRules(), cabinRules(), withSeats(greatestRules(), 8, 8, 8)} {
		h := newHouse(r)
		for n := range h.Cabins {
			less := h
			less.Cabins = h.Cabins[:n]
			wantHouse(t, less, "cabins")
			less.Cabins = h.Cabins[n+1:]
			if n == len(h.Cabins)-1 {
				wantHouse(t, less, "cabins")
			}
			wantHouseOk(t, less, false)
		}
		more := h
		for _, total := range []int{8, 1, 60} {
			c, _ := impl.CabinNew(total)
			more.Cabins = append(slices.Clone(more.Cabins), c)
			wantHouse(t, more, "cabins")
		}
		h.Cabins = []impl.Cabin{}
		wantHouse(t, h, "cabins")
	}
	h := handHouse()
	h.Todo, h.Jobs = nil, noJobs(2)
	wantHouse(t, h)
	h.Cabins = threeCabins()[:2]
	wantHouse(t, h, "cabins")
	h.Cabins = append(threeCabins(), threeCabins()[2])
	wantHouse(t, h, "cabins", "agrees")
	h.Cabins = nil
	wantHouse(t, h, "cabins")
}

func TestHouseTotal(t *testing.T) {
	for total := 1; total <= 60; total++ {
		for seats := 1; seats <= 60; seats++ {
			h := newHouse(withSeats(cabinRules(), 20, total, 60))
			h.Rules.Seats[1] = seats
			if total == seats {
				wantHouse(t, h)
			} else {
				wantHouse(t, h, "total")
			}
		}
	}
	h := handHouse()
	for at, c := range h.Cabins {
		l := c.Seats
		wantHouse(t, withCabin(h, at, withLedger(c, ledger(l.Total+1, l.Free, l.Held, l.Sold+1, l.Tied))), "total")
		wantHouse(t, withCabin(h, at, withLedger(c, ledger(l.Total+1, l.Free+1, l.Held, l.Sold, l.Tied))), "total")
		wantHouse(t, withCabin(h, at, withLedger(c, ledger(l.Total-1, l.Free, l.Held, l.Sold-1, l.Tied))), "total")
		wantHouse(t, withCabin(h, at, withLedger(c, ledger(l.Total, l.Free+1, l.Held, l.Sold-1, l.Tied))))
	}
	wantHouseOk(t, impl.House{Rules: h.Rules, Now: h.Now, Turn: 10, Parties: h.Parties, Cabins: []impl.Cabin{h.Cabins[1], h.Cabins[0], h.Cabins[2]}, Jobs: h.Jobs}, false)
}

// TestHouseCabinsAgree changes the row, the wheel or the ledger of one cabin.
func TestHouseCabinsAgree(t *testing.T) {
	h := handHouse()
	for at, c := range h.Cabins {
		alone := 0
		for _, other := range cabinChanges(c) {
			if other.Seats.Total == c.Seats.Total {
				wantHouse(t, withCabin(h, at, other), "agrees")
				alone++
			} else {
				wantHouse(t, withCabin(h, at, other), "total", "agrees")
			}
		}
		if alone < 6 {
			t.Errorf("only %d changes of cabin %d", alone, at)
		}
		for _, other := range h.Cabins {
			for _, mixed := range []impl.Cabin{withRow(c, other.Row...), withWheel(c, allPins(other.Wheel)...)} {
				wantHouseOk(t, withCabin(h, at, mixed), cabinEqual(mixed, c))
			}
		}
		wantHouse(t, withCabin(h, at, impl.Cabin{Seats: c.Seats, Row: c.Row}), "agrees")
	}
	held := h.Cabins[0]
	held.Seats.Held, held.Seats.Free = held.Seats.Held+1, held.Seats.Free-1
	wantHouse(t, withCabin(h, 0, held), "agrees")
	tied := h.Cabins[2]
	tied.Seats.Tied--
	wantHouse(t, withCabin(h, 2, tied), "agrees")
}

// TestHouseCabinsNotOk has a cabin with one part that is not valid.
func TestHouseCabinsNotOk(t *testing.T) {
	h := handHouse()
	for at, c := range h.Cabins {
		for _, l := range badLedgers() {
			wantHouseOk(t, withCabin(h, at, withLedger(c, l)), false)
		}
		for _, row := range badRows() {
			wantHouseOk(t, withCabin(h, at, withRow(c, row...)), false)
		}
		for _, w := range badWheels() {
			other := c
			other.Wheel = w
			if !wheelEqual(w, c.Wheel) {
				wantHouseOk(t, withCabin(h, at, other), false)
			}
		}
		wantHouseOk(t, withCabin(h, at, impl.Cabin{}), false)
	}
}

// crowd are n parties of a cabin, of which the first ones wait and the others
// are offered.
func crowd(cabin, waiting, n int) []impl.Party {
	var list []impl.Party
	for i := range n {
		p := impl.Party{Id: 5 + 2*i, Cabin: cabin, From: -1, Size: 1, Turn: 1 + i, State: 1}
		if i >= waiting {
			p.State, p.Until = 2, 1+i%2
		}
		list = append(list, p)
	}
	return list
}

// TestHouseRoom has as many parties as there is room for, and one more. With
// more than ten entries or pins the cabin is not valid either.
func TestHouseRoom(t *testing.T) {
	for room := 1; room <= 10; room++ {
		r := cabinRules()
		r.Room = room
		for cabin := range 3 {
			for waiting := range room + 1 {
				wantHouse(t, houseMade(r, 0, 20, crowd(cabin, waiting, room)...))
			}
			for waiting := range room + 2 {
				h := houseMade(r, 0, 20, crowd(cabin, waiting, room+1)...)
				if max(waiting, room+1-waiting) <= 10 {
					wantHouse(t, h, "room")
				}
				wantHouseOk(t, h, false)
				r.Room = min(room+1, 10)
				h.Rules = r
				wantHouseOk(t, h, room < 10)
				r.Room = room
			}
		}
	}
}

// TestHouseRoomOfEach fills all cabins; parties that give seats back in a cabin
// take no room there.
func TestHouseRoomOfEach(t *testing.T) {
	r := withSeats(greatestRules(), 60, 60, 60, 60)
	var list []impl.Party
	for i := range 40 {
		list = append(list, impl.Party{Id: 1 + i, Cabin: i % 4, From: (i + 1) % 4, Size: 1 + i%3, Tier: i % 5, Turn: 41 - i, State: 1 + i/4%2, Until: 1 + i%8})
	}
	wantHouse(t, houseMade(r, 0, 42, list...))
	list = append(list, impl.Party{Id: 999, Cabin: 2, From: -1, Size: 1, Turn: 42, State: 1})
	wantHouse(t, houseMade(r, 0, 43, list...), "room")
	wantHouse(t, houseMade(r, 0, 43, list[1:]...), "room")
	wantHouse(t, houseMade(r, 0, 43, slices.Delete(slices.Clone(list), 2, 3)...))
}

func TestHouseTodo(t *testing.T) {
	for cabins := 1; cabins <= 4; cabins++ {
		h := newHouse(withSeats(greatestRules(), slices.Repeat([]int{9}, cabins)...))
		for _, order := range ordersOf(cabins) {
			for n := range cabins + 1 {
				h.Todo = order[:n]
				wantHouse(t, h)
				for at := range n + 1 {
					for _, wrong := range append(extremes(), -1, -2, cabins, cabins+1, 1<<32, -1<<32) {
						h.Todo = slices.Insert(slices.Clone(order[:n]), at, wrong)
						wantHouse(t, h, "todo")
					}
					for _, again := range order[:n] {
						h.Todo = slices.Insert(slices.Clone(order[:n]), at, again)
						wantHouse(t, h, "todo")
					}
				}
			}
		}
		h.Todo = []int{}
		wantHouse(t, h)
		h.Todo = slices.Repeat([]int{0}, 100000)
		wantHouseOk(t, h, false)
	}
}

func TestHouseJobs(t *testing.T) {
	for crew := 1; crew <= 3; crew++ {
		for cabins := 1; cabins <= 4; cabins++ {
			r := withSeats(greatestRules(), slices.Repeat([]int{9}, cabins)...)
			r.Crew = crew
			h := newHouse(r)
			for cabin := -1; cabin < cabins; cabin++ {
				h.Jobs = slices.Repeat([]int{cabin}, crew)
				wantHouse(t, h)
				h.Jobs = slices.Repeat([]int{cabin}, crew-1)
				wantHouse(t, h, "jobs")
				h.Jobs = slices.Repeat([]int{cabin}, crew+1)
				wantHouse(t, h, "jobs")
				for who := range crew {
					for _, wrong := range append(extremes(), -2, -3, cabins, cabins+1, 1<<32, -1<<32) {
						h.Jobs = slices.Repeat([]int{cabin}, crew)
						h.Jobs[who] = wrong
						wantHouse(t, h, "jobs")
					}
					h.Jobs = slices.Repeat([]int{cabin}, crew)
					h.Jobs[who] = cabins - 1
					// A cabin may be taken and be in the queue again.
					h.Todo = []int{cabins - 1}
					wantHouse(t, h)
					h.Todo = nil
				}
			}
			h.Jobs = nil
			wantHouse(t, h, "jobs")
			h.Jobs = []int{}
			wantHouse(t, h, "jobs")
		}
	}
}

// randomHouse is valid; its parties have Turns in the order of their ticks.
func randomHouse(next func(int) int) impl.House {
	r := randomRules(next)
	now := []int{0, 1, 7, 30, 1000000}[next(5)]
	list := randomParties(next, r, now)
	slices.SortStableFunc(list, func(a, b impl.Party) int { return a.Since - b.Since })
	turn := 1 + next(3)
	for i := range list {
		list[i].Turn = turn
		turn += 1 + next(3)
	}
	slices.SortFunc(list, func(a, b impl.Party) int { return a.Id - b.Id })
	h := houseMade(r, now, turn+next(3), list...)
	for _, cabin := range ordersOf(len(r.Seats))[next(len(ordersOf(len(r.Seats))))] {
		if next(2) == 1 {
			h.Todo = append(h.Todo, cabin)
		}
	}
	for who := range h.Jobs {
		h.Jobs[who] = next(len(r.Seats)+1) - 1
	}
	return h
}

// TestRandomHouses have one number of one party changed, with the cabins left
// as they are and with the cabins of the changed parties.
func TestRandomHouses(t *testing.T) {
	right, wrong := 0, map[string]int{}
	for seed := range 200 {
		h := randomHouse(mixer(seed))
		wantHouse(t, h)
		for at, p := range h.Parties {
			for _, f := range allPartyFields(h.Rules, h.Now) {
				n := *f.of(&p)
				for _, n := range []int{n - 1, n + 1, -1, 0, 1, 2, h.Now, h.Turn - 1, h.Turn} {
					kept := h
					kept.Parties = withParty(h.Parties, at, withPartyField(p, f, n))
					made := remade(h, kept.Parties...)
					for _, changed := range []impl.House{kept, made} {
						faults := houseFaults(changed)
						wantHouseOk(t, changed, len(faults) == 0)
						if len(faults) == 0 {
							right++
						} else if len(faults) == 1 {
							wrong[faults[0]]++
						}
					}
				}
			}
		}
	}
	for _, name := range []string{"party", "later turn", "ids", "turns", "ticks", "agrees"} {
		if wrong[name] < 50 || right < 5000 {
			t.Errorf("only %d states are right and %d fail %q alone", right, wrong[name], name)
		}
	}
}

// TestRandomHousesWithoutOneParty agree only where the party is in no cabin.
func TestRandomHousesWithoutOneParty(t *testing.T) {
	for seed := range 300 {
		h := randomHouse(mixer(seed))
		for at := range h.Parties {
			less := h
			less.Parties = slices.Delete(slices.Clone(h.Parties), at, at+1)
			wantHouse(t, less, "agrees")
			wantHouse(t, remade(h, less.Parties...))
		}
		for at, c := range h.Cabins {
			for _, other := range cabinChanges(c) {
				wantHouseOk(t, withCabin(h, at, other), false)
			}
		}
		for _, name := range []string{"turn", "now"} {
			other := h
			if name == "turn" {
				other.Turn = 1000002
			} else {
				other.Now = 1000001
			}
			wantHouseOk(t, other, false)
		}
	}
}

func TestPartyAt(t *testing.T) {
	for _, empty := range [][]impl.Party{nil, {}} {
		for _, id := range append(extremes(), -1, 0, 1, 5, 999) {
			wantPartyAt(t, empty, id, -1)
		}
	}
	sorted := named(2, 5, 9, 40, 999)
	for want, id := range []int{2, 5, 9, 40, 999} {
		wantPartyAt(t, sorted, id, want)
	}
	for _, id := range append(extremes(), -5, -1, 0, 1, 3, 4, 6, 8, 10, 39, 41, 998, 1000, 1<<32+5) {
		wantPartyAt(t, sorted, id, -1)
	}
	for _, list := range [][]int{{7}, {7, 7}, {3, 7, 7, 9}, {9, 7, 3}, {9, 9, 7, 3, 7}, {0, -4, 7}, {1, 2, 3, 2, 1}, extremes(), {math.MaxInt, 0, math.MinInt, 0, math.MaxInt}} {
		for _, id := range append(extremes(), -5, -4, -1, 0, 1, 2, 3, 4, 7, 8, 9, 10) {
			wantPartyAt(t, named(list...), id, slices.Index(list, id))
		}
	}
	for i, p := range cabinParties() {
		h := handHouse()
		h.Turn, h.Now, h.Rules = -1, -1, impl.Rules{} // the state need not be valid
		if got := impl.PartyAt(h, p.Id); got != i {
			t.Errorf("PartyAt of party %d = %d, want %d", p.Id, got, i)
		}
	}
}

func TestPartyPut(t *testing.T) {
	p := impl.Party{Id: 5, Cabin: 3, From: 1, Size: 6, Tier: 4, Since: 8, Turn: 90, State: 2, Until: 11, Asked: 3}
	l := named(2, 4, 6, 8)
	wantPartyPut(t, nil, p, []impl.Party{p})
	wantPartyPut(t, []impl.Party{}, p, []impl.Party{p})
	wantPartyPut(t, l, p, []impl.Party{l[0], l[1], p, l[2], l[3]})
	wantPartyPut(t, l[2:], p, []impl.Party{p, l[2], l[3]})
	wantPartyPut(t, l[:2], p, []impl.Party{l[0], l[1], p})
	l = named(2, 5, 6)
	wantPartyPut(t, l, p, []impl.Party{l[0], p, l[2]})
	l = named(5)
	wantPartyPut(t, l, p, []impl.Party{p})
	l = named(2, 5, 5, 6)
	wantPartyPut(t, l, p, []impl.Party{l[0], p, l[2], l[3]})
	l = named(5, 5, 5)
	wantPartyPut(t, l, p, []impl.Party{p, l[1], l[2]})
	l = named(8, 2, 5, 1, 5)
	wantPartyPut(t, l, p, []impl.Party{l[0], l[1], p, l[3], l[4]})
	l = named(3, 8, 2, 7, 1)
	wantPartyPut(t, l, p, []impl.Party{l[0], p, l[1], l[2], l[3], l[4]})
	l = named(4, 3, 2, 1)
	wantPartyPut(t, l, p, []impl.Party{l[0], l[1], l[2], l[3], p})
	l = named(9, 8, 7)
	wantPartyPut(t, l, p, []impl.Party{p, l[0], l[1], l[2]})
}

func TestPartyCut(t *testing.T) {
	wantPartyCut(t, nil, 5, nil)
	wantPartyCut(t, []impl.Party{}, 5, nil)
	l := named(2, 5, 6)
	wantPartyCut(t, l, 2, []impl.Party{l[1], l[2]})
	wantPartyCut(t, l, 5, []impl.Party{l[0], l[2]})
	wantPartyCut(t, l, 6, []impl.Party{l[0], l[1]})
	for _, id := range append(extremes(), -1, 0, 1, 3, 4, 7, 999, 1<<32+5) {
		wantPartyCut(t, l, id, l)
	}
	wantPartyCut(t, named(5), 5, nil)
	l = named(2, 5, 5, 6)
	wantPartyCut(t, l, 5, []impl.Party{l[0], l[2], l[3]})
	l = named(5, 5, 5)
	wantPartyCut(t, l, 5, []impl.Party{l[1], l[2]})
	l = named(8, 2, 5, 1, 5)
	wantPartyCut(t, l, 5, []impl.Party{l[0], l[1], l[3], l[4]})
	wantPartyCut(t, l, 8, l[1:])
	wantPartyCut(t, l, 3, l)
	for _, order := range ordersOf(5) {
		left := cabinParties()[:5]
		for n, at := range order {
			left = impl.PartyCut(left, cabinParties()[at].Id)
			if len(left) != 4-n || placeFound(left, cabinParties()[at].Id) >= 0 {
				t.Errorf("after the cuts %v: %+v", order[:n+1], left)
			}
		}
	}
}

// TestPartiesOfAnyIds has Ids that no valid party can have, and lists that are
// not sorted or have an Id more than once.
func TestPartiesOfAnyIds(t *testing.T) {
	ids := append(extremes(), -7, -1, 0, 1, 2, 3, 999, 1000, 1<<32)
	for _, a := range ids {
		for _, b := range ids {
			for _, c := range ids {
				list := named(a, b, c)
				for _, id := range ids {
					p := impl.Party{Id: id, Cabin: -7, From: -7, Turn: -7}
					wantPartyPut(t, list, p, putInto(list, p))
					wantPartyCut(t, list, id, cutFrom(list, id))
					wantPartyAt(t, list, id, placeFound(list, id))
				}
			}
		}
	}
	for _, p := range []impl.Party{{}, {Id: math.MinInt}, {Id: math.MaxInt}} {
		wantPartyPut(t, nil, p, []impl.Party{p})
		wantPartyCut(t, []impl.Party{p}, p.Id, nil)
		wantPartyCut(t, []impl.Party{p}, 77, []impl.Party{p})
	}
}

// TestPartiesInLongLists has many parties, so that an order other than that of
// the list would be seen; the calls are repeated.
func TestPartiesInLongLists(t *testing.T) {
	for seed := range 40 {
		next := mixer(seed)
		var list []impl.Party
		for range 200 {
			list = append(list, named(next(150)-20)...)
			list[len(list)-1].Turn = next(1000000)
		}
		for range 20 {
			p := impl.Party{Id: next(160) - 25, Turn: 7}
			wantPartyPut(t, list, p, putInto(list, p))
			wantPartyCut(t, list, p.Id, cutFrom(list, p.Id))
			wantPartyAt(t, list, p.Id, placeFound(list, p.Id))
		}
	}
}

// TestInsertedPartiesAreFound is the part of P11 that is about the parties.
func TestInsertedPartiesAreFound(t *testing.T) {
	for seed := range 300 {
		next := mixer(seed)
		h := randomHouse(next)
		for range 12 {
			p := impl.Party{Id: 1 + next(999), Cabin: next(4), From: -1, Size: 1, Turn: 1 + next(99), State: 1}
			before := slices.Clone(h.Parties)
			if impl.PartyAt(h, p.Id) >= 0 {
				continue
			}
			h.Parties = impl.PartyPut(h.Parties, p)
			at := impl.PartyAt(h, p.Id)
			if at < 0 || h.Parties[at] != p || len(h.Parties) != len(before)+1 {
				t.Fatalf("party %+v in %+v is at %d", p, h.Parties, at)
			}
			if !slices.Equal(slices.Delete(slices.Clone(h.Parties), at, at+1), before) {
				t.Errorf("the parties %+v became %+v", before, h.Parties)
			}
			if !slices.IsSortedFunc(h.Parties, func(a, b impl.Party) int { return a.Id - b.Id }) {
				t.Errorf("the parties %+v are not sorted", h.Parties)
			}
			for i, other := range before {
				want := i
				if i >= at {
					want++
				}
				wantPartyAt(t, h.Parties, other.Id, want)
			}
			wantPartyCut(t, h.Parties, p.Id, before)
			wantPartyAt(t, impl.PartyCut(h.Parties, p.Id), p.Id, -1)
		}
	}
}

// TestInsertedPartiesMakeHouses inserts the parties of a valid state one by one
// in any order: there is a valid state with each part of them.
func TestInsertedPartiesMakeHouses(t *testing.T) {
	for seed := range 200 {
		next := mixer(seed)
		h := randomHouse(next)
		left := slices.Clone(h.Parties)
		var list []impl.Party
		for len(left) > 0 {
			at := next(len(left))
			list = impl.PartyPut(list, left[at])
			left = slices.Delete(left, at, at+1)
			wantHouse(t, remade(h, list...))
		}
		wantSameHouse(t, remade(h, list...), h, true)
	}
}

func TestTodoPut(t *testing.T) {
	wantTodoPut(t, nil, 2, 2)
	wantTodoPut(t, []int{}, 2, 2)
	wantTodoPut(t, nil, 0, 0)
	wantTodoPut(t, []int{}, -1, -1)
	wantTodoPut(t, []int{2}, 2, 2)
	wantTodoPut(t, []int{2}, 0, 2, 0)
	wantTodoPut(t, []int{3, 1, 2}, 0, 3, 1, 2, 0)
	for _, cabin := range []int{3, 1, 2} {
		wantTodoPut(t, []int{3, 1, 2}, cabin, 3, 1, 2)
	}
	wantTodoPut(t, []int{1, 0, 1}, 1, 1, 0, 1)
	wantTodoPut(t, []int{1, 0, 1}, 0, 1, 0, 1)
	wantTodoPut(t, []int{1, 0, 1}, 2, 1, 0, 1, 2)
	wantTodoPut(t, []int{-1, 9}, -1, -1, 9)
	wantTodoPut(t, []int{-1, 9}, -2, -1, 9, -2)
	for _, cabin := range append(extremes(), -3, 4, 77, 1<<32) {
		wantTodoPut(t, []int{0, 1, 2, 3}, cabin, 0, 1, 2, 3, cabin)
		wantTodoPut(t, []int{0, cabin, 3}, cabin, 0, cabin, 3)
	}
	for _, order := range ordersOf(4) {
		var list []int
		for _, cabin := range slices.Concat(order, order, []int{0, 1, 2, 3}) {
			list = impl.TodoPut(list, cabin)
		}
		if !slices.Equal(list, order) {
			t.Errorf("TodoPut of %v gives %v", order, list)
		}
	}
}

// emptied has empty lists in place of nil ones, and nilled the other way round.
func emptied(h impl.House) impl.House {
	h.Parties, h.Todo, h.Jobs = append([]impl.Party{}, h.Parties...), append([]int{}, h.Todo...), append([]int{}, h.Jobs...)
	h.Cabins = slices.Clone(h.Cabins)
	for at, c := range h.Cabins {
		c.Row = append([]impl.Entry{}, c.Row...)
		c.Wheel = cloned(c.Wheel)
		for i, pins := range c.Wheel.Spoke {
			c.Wheel.Spoke[i] = append([]impl.Pin{}, pins...)
		}
		h.Cabins[at] = c
	}
	return h
}

func nilled(h impl.House) impl.House {
	h.Parties, h.Todo, h.Jobs = slices.Concat(h.Parties), slices.Concat(h.Todo), slices.Concat(h.Jobs)
	h.Cabins = slices.Clone(h.Cabins)
	for at, c := range h.Cabins {
		c.Row = slices.Concat(c.Row)
		c.Wheel = wheel(allPins(c.Wheel)...)
		h.Cabins[at] = c
	}
	return h
}

func someHouses() []impl.House {
	idle := handHouse()
	idle.Todo, idle.Jobs = nil, noJobs(2)
	list := []impl.House{handHouse(), idle, newHouse(plainRules()), newHouse(leastRules()), newHouse(greatestRules()), newHouse(mixedRules())}
	list = append(list, houseMade(cabinRules(), 3, 20, crowd(1, 6, 6)...), houseMade(cabinRules(), 3, 20, crowd(1, 0, 6)...), houseMade(cabinRules(), 3, 20, crowd(2, 3, 6)...))
	for seed := range 20 {
		list = append(list, randomHouse(mixer(seed)))
	}
	return list
}

func TestSameHouse(t *testing.T) {
	all := someHouses()
	for i, h := range all {
		wantHouse(t, h)
		wantSameHouse(t, h, h, true)
		wantSameHouse(t, h, emptied(h), true)
		wantSameHouse(t, h, nilled(h), true)
		wantSameHouse(t, emptied(h), nilled(h), true)
		for _, other := range all[:i] {
			wantSameHouse(t, h, other, houseEqual(nilled(h), nilled(other)))
		}
		less := h
		less.Todo = []int{}
		if len(h.Todo) > 0 {
			wantSameHouse(t, h, less, false)
		}
	}
}

// wantDifferent expects valid states, since all others differ anyhow.
func wantDifferent(t *testing.T, a, b impl.House) {
	t.Helper()
	wantHouse(t, a)
	wantHouse(t, b)
	wantSameHouse(t, a, b, false)
}

func TestSameHouseNumbers(t *testing.T) {
	for _, h := range someHouses() {
		other := h
		for _, turn := range []int{h.Turn + 1, h.Turn + 7, 1000001} {
			other.Turn = turn
			wantDifferent(t, h, other)
		}
	}
	for _, h := range []impl.House{newHouse(plainRules()), newHouse(greatestRules()), houseMade(cabinRules(), 3, 20, crowd(1, 0, 6)...), houseMade(cabinRules(), 3, 20, crowd(1, 6, 6)...)} {
		other := h
		for _, now := range []int{h.Now + 1, h.Now + 2, h.Now + 3, h.Now + 600, 1000000} {
			other.Now = now
			wantDifferent(t, h, other)
		}
	}
}

// TestSameHouseRules has rules that differ in one number, where it does not
// change anything else; the seats and the crew change the cabins and the jobs.
func TestSameHouseRules(t *testing.T) {
	alone := map[string]int{}
	for _, h := range []impl.House{newHouse(plainRules()), handHouse(), houseMade(cabinRules(), 3, 20, crowd(1, 0, 6)...)} {
		for _, f := range ruleFields() {
			for n := f.least; n <= f.most; n++ {
				other := h
				other.Rules = withField(h.Rules, f, n)
				if n != *f.of(&h.Rules) && len(houseFaults(other)) == 0 {
					wantDifferent(t, h, other)
					alone[f.name]++
				}
				if len(h.Parties) == 0 && n != *f.of(&h.Rules) {
					wantDifferent(t, h, newHouse(other.Rules))
				}
			}
		}
	}
	for _, f := range ruleFields() {
		if alone[f.name] == 0 && f.name != "Crew" {
			t.Errorf("no states differ in %s alone", f.name)
		}
	}
	for _, seats := range [][]int{{4}, {10}, {4, 9}, {5, 10}, {10, 4}, {4, 10, 1}, {1, 4, 10}} {
		wantDifferent(t, newHouse(plainRules()), newHouse(withSeats(plainRules(), seats...)))
	}
}

// TestSameHouseParties has one field of one party changed. Where the cabins do
// not show it, the parties differ alone.
func TestSameHouseParties(t *testing.T) {
	alone, differ := map[string]int{}, map[string]int{}
	for _, h := range someHouses() {
		for at, p := range h.Parties {
			for _, f := range allPartyFields(h.Rules, h.Now) {
				n := *f.of(&p)
				for _, m := range []int{n - 1, n + 1, n - 2, n + 2, 0, 1, 2} {
					kept := h
					kept.Parties = withParty(h.Parties, at, withPartyField(p, f, m))
					if m != n && len(houseFaults(kept)) == 0 {
						wantDifferent(t, h, kept)
						alone[f.name]++
					}
					made := remade(h, kept.Parties...)
					if m != n && len(houseFaults(made)) == 0 {
						wantDifferent(t, h, made)
						differ[f.name]++
					}
				}
			}
		}
	}
	for _, f := range allPartyFields(cabinRules(), cabinTick) {
		if differ[f.name] == 0 {
			t.Errorf("no states differ in %s", f.name)
		}
	}
	for _, name := range []string{"Tier", "Since", "Turn", "Until", "Asked"} {
		if alone[name] == 0 {
			t.Errorf("no parties differ in %s alone", name)
		}
	}
}

func TestSameHouseNumberOfParties(t *testing.T) {
	for _, h := range someHouses() {
		for at := range h.Parties {
			wantDifferent(t, h, remade(h, slices.Delete(slices.Clone(h.Parties), at, at+1)...))
			wantDifferent(t, h, remade(h, h.Parties[:at]...))
			// In another order the parties are not valid.
			other := h
			other.Parties = withParty(withParty(h.Parties, at, h.Parties[0]), 0, h.Parties[at])
			wantSameHouse(t, h, other, at == 0)
			wantSameHouse(t, other, other, at == 0)
		}
	}
}

// TestSameHouseCabins has one cabin with as many held and tied seats, and
// others free.
func TestSameHouseCabins(t *testing.T) {
	differ := 0
	for _, h := range someHouses() {
		for at, c := range h.Cabins {
			for free := range c.Seats.Free + c.Seats.Sold - c.Seats.Tied + 1 {
				other := withCabin(h, at, withLedger(c, ledger(c.Seats.Total, free, c.Seats.Held, c.Seats.Free+c.Seats.Sold-free, c.Seats.Tied)))
				if free == c.Seats.Free {
					wantSameHouse(t, h, other, true)
					continue
				}
				wantDifferent(t, h, other)
				differ++
			}
		}
	}
	if differ < 500 {
		t.Errorf("only %d states differ in a cabin", differ)
	}
}

func TestSameHouseTodoAndJobs(t *testing.T) {
	for _, h := range []impl.House{handHouse(), newHouse(cabinRules()), newHouse(withSeats(greatestRules(), 3, 3, 3))} {
		var todos [][]int
		for _, order := range ordersOf(3) {
			todos = append(todos, order, order[:1], order[:2])
		}
		todos = append(todos, nil)
		for _, one := range todos {
			for _, two := range todos {
				a, b := h, h
				a.Todo, b.Todo = one, two
				wantHouse(t, a)
				wantSameHouse(t, a, b, slices.Equal(one, two))
			}
		}
		for one := range 16 {
			for two := range 16 {
				a, b := h, h
				a.Jobs, b.Jobs = slices.Clone(h.Jobs), slices.Clone(h.Jobs)
				a.Jobs[0], a.Jobs[1] = one/4-1, one%4-1
				b.Jobs[0], b.Jobs[1] = two/4-1, two%4-1
				wantHouse(t, a)
				wantSameHouse(t, a, b, one == two)
			}
		}
	}
}

// badHouses are not HouseOk, most of them in one condition.
func badHouses() []impl.House {
	list := []impl.House{{}, {Turn: 1}, {Rules: plainRules()}, {Rules: plainRules(), Turn: 1}, {Rules: plainRules(), Turn: 1, Jobs: noJobs(2)}}
	for _, h := range []impl.House{handHouse(), newHouse(plainRules()), randomHouse(mixer(3))} {
		bad := slices.Repeat([]impl.House{h}, 12)
		bad[0].Rules.Window = 9
		bad[1].Now = -1
		bad[2].Now = 1000001
		bad[3].Turn = 0
		bad[4].Turn = 1000002
		bad[5].Parties = append(slices.Clone(h.Parties), impl.Party{Id: 999})
		bad[6].Parties = append(slices.Clone(h.Parties), waiter())
		bad[7].Cabins = h.Cabins[1:]
		bad[8].Cabins = append(slices.Clone(h.Cabins), h.Cabins[0])
		bad[9].Todo = []int{0, 0}
		bad[10].Jobs = nil
		bad[11].Jobs = append(slices.Clone(h.Jobs), -1)
		list = append(list, bad...)
	}
	h := handHouse()
	for at, c := range h.Cabins {
		for _, other := range cabinChanges(c) {
			list = append(list, withCabin(h, at, other))
		}
	}
	for at := range h.Parties[1:] {
		list = append(list, remade(h, withParty(h.Parties, at, h.Parties[at+1])...))
	}
	return list
}

// TestSameHouseInvalid has states that are the same as no other, not even as
// themselves.
func TestSameHouseInvalid(t *testing.T) {
	bad := badHouses()
	for i, h := range bad {
		wantHouseOk(t, h, false)
		wantSameHouse(t, h, h, false)
		wantSameHouse(t, h, handHouse(), false)
		wantSameHouse(t, h, newHouse(plainRules()), false)
		wantSameHouse(t, h, bad[(i+1)%len(bad)], false)
	}
}

// TestHousesAsLists has many lists that do not fit each other, to show that
// nothing panics.
func TestHousesAsLists(t *testing.T) {
	pool := append(cabinParties(), badParties(cabinRules(), cabinTick)...)
	rules := append(badRules(), cabinRules(), plainRules(), mixedRules())
	nums := append(extremes(), -2, -1, 0, 1, 2, 3, 7, 10, 1000000, 1000001)
	for seed := range 4000 {
		next := mixer(seed)
		h := impl.House{Rules: rules[next(len(rules))], Now: nums[next(len(nums))], Turn: nums[next(len(nums))]}
		if next(2) == 1 {
			h = handHouse()
		}
		for range next(4) {
			h.Parties = append(h.Parties, pool[next(len(pool))])
			h.Todo = append(h.Todo, nums[next(len(nums))])
			h.Jobs = append(h.Jobs, nums[next(len(nums))])
			h.Cabins = append(h.Cabins, keptCabins()[next(8)])
		}
		want := len(houseFaults(h)) == 0
		wantHouseOk(t, h, want)
		wantSameHouse(t, h, h, want)
		p := pool[next(len(pool))]
		wantPartyAt(t, h.Parties, p.Id, placeFound(h.Parties, p.Id))
		wantPartyPut(t, h.Parties, p, putInto(h.Parties, p))
		wantPartyCut(t, h.Parties, p.Id, cutFrom(h.Parties, p.Id))
	}
}

// TestHouseResultsRepeat would see a result that depends on the order in which
// a map is iterated over.
func TestHouseResultsRepeat(t *testing.T) {
	var list []impl.Party
	for i := range 40 {
		list = append(list, impl.Party{Id: 1 + i, Cabin: i % 4, From: (i + 1) % 4, Size: 1, Tier: i % 5, Since: i / 4, Turn: 1 + i, State: 1 + i/4%2, Until: 9})
	}
	good := houseMade(greatestRules(), 10, 41, list...)
	var bad []impl.House
	for at := range 39 {
		// Two neighbours, and two others, in the order of the Turns.
		for _, other := range []int{at + 1, (at + 17) % 40} {
			swapped := slices.Clone(list)
			swapped[at].Turn, swapped[other].Turn = list[other].Turn, list[at].Turn
			if contradicts(swapped[at], swapped[other]) {
				bad = append(bad, houseMade(greatestRules(), 10, 41, swapped...))
			}
		}
	}
	for range 30 {
		wantHouse(t, good)
		wantSameHouse(t, good, good, true)
		wantPartyPut(t, list, list[7], list)
		wantPartyCut(t, list, 20, slices.Concat(list[:19], list[20:]))
	}
	if len(bad) < 40 {
		t.Errorf("only %d states are wrong", len(bad))
	}
	for _, h := range bad {
		for range 5 {
			wantHouse(t, h, "ticks")
		}
	}
}

// roomyHouse is a copy of h with unused capacity in every list; what is in it
// would make some lists valid or others of them wrong.
func roomyHouse(h impl.House) impl.House {
	h.Rules.Seats, _ = roomyNums(h.Rules.Seats)
	h.Todo, _ = roomyNums(h.Todo)
	h.Jobs, _ = roomyNums(h.Jobs)
	h.Parties, _ = roomyParties(h.Parties)
	var all []impl.Cabin
	for _, c := range slices.Concat(h.Cabins, threeCabins()) {
		all = append(all, roomyCabin(c))
	}
	h.Cabins = all[:len(h.Cabins)]
	return h
}

// memoryOf is all that can be reached from a state, list by list, the unused
// capacity included.
func memoryOf(h impl.House) []any {
	all := []any{
		slices.Clone(h.Rules.Seats[:cap(h.Rules.Seats)]),
		slices.Clone(h.Todo[:cap(h.Todo)]),
		slices.Clone(h.Jobs[:cap(h.Jobs)]),
		slices.Clone(h.Parties[:cap(h.Parties)]),
	}
	var seats []impl.Ledger
	for _, c := range h.Cabins[:cap(h.Cabins)] {
		seats = append(seats, c.Seats)
		all = append(all, slices.Clone(c.Row[:cap(c.Row)]), memory(c.Wheel))
	}
	return append(all, seats)
}

func TestHouseArgumentsAreKept(t *testing.T) {
	for _, h := range append(someHouses(), badHouses()...) {
		room, other := roomyHouse(h), roomyHouse(h)
		was := memoryOf(room)
		want := len(houseFaults(h)) == 0
		wantHouseOk(t, room, want)
		wantSameHouse(t, room, h, want)
		wantSameHouse(t, room, other, want)
		impl.HouseNew(room.Rules)
		for _, id := range []int{-1, 0, 1, 5, 9, 90, 999} {
			impl.PartyAt(room, id)
			wantPartyCut(t, room.Parties, id, cutFrom(h.Parties, id))
			p := impl.Party{Id: id, Turn: 77}
			wantPartyPut(t, room.Parties, p, putInto(h.Parties, p))
			impl.TodoPut(room.Todo, id)
		}
		for cabin := -1; cabin <= 4; cabin++ {
			if got := impl.TodoPut(room.Todo, cabin); slices.Contains(h.Todo, cabin) != (len(got) == len(h.Todo)) {
				t.Errorf("TodoPut(%v, %d) = %v", h.Todo, cabin, got)
			}
		}
		if now := memoryOf(room); !reflect.DeepEqual(now, was) || !houseEqual(room, h) {
			t.Errorf("the state %+v became %+v", was, now)
		}
	}
}

func spoilParties(list []impl.Party) {
	list = list[:cap(list)]
	for i := range list {
		list[i] = impl.Party{Id: -99, Turn: -99}
	}
}

// TestHouseListsShareNoMemory spoils the lists that are returned.
func TestHouseListsShareNoMemory(t *testing.T) {
	for _, h := range append(someHouses(), impl.House{Parties: named(5, 3, 5, 9)}) {
		room := roomyHouse(h)
		was := memoryOf(room)
		for _, id := range []int{-1, 0, 1, 5, 9, 90, 999} {
			p := impl.Party{Id: id, Turn: 77}
			one, two := impl.PartyPut(room.Parties, p), impl.PartyPut(room.Parties, p)
			less, least := impl.PartyCut(room.Parties, id), impl.PartyCut(room.Parties, id)
			spoilParties(one)
			spoilParties(less)
			if !slices.Equal(two, putInto(h.Parties, p)) || !slices.Equal(least, cutFrom(h.Parties, id)) {
				t.Errorf("the lists with and without party %d share memory", id)
			}
		}
		for cabin := -1; cabin <= 4; cabin++ {
			one, two := impl.TodoPut(room.Todo, cabin), impl.TodoPut(room.Todo, cabin)
			want := slices.Clone(two)
			spoilNums(one)
			if !slices.Equal(two, want) {
				t.Errorf("TodoPut(%v, %d) shares memory", h.Todo, cabin)
			}
		}
		if now := memoryOf(room); !reflect.DeepEqual(now, was) {
			t.Errorf("the state %+v became %+v", was, now)
		}
	}
}

// houseParts each spoil one list of a state, the unused capacity included.
func houseParts(h impl.House) []func() {
	parts := []func(){
		func() { spoilNums(h.Rules.Seats) },
		func() { spoilNums(h.Jobs) },
		func() { spoilNums(h.Todo) },
		func() { spoilParties(h.Parties) },
	}
	for _, c := range h.Cabins {
		parts = append(parts, func() { spoilEntries(c.Row) })
		for at, pins := range c.Wheel.Spoke {
			parts = append(parts, func() { spoilPins(pins) }, func() { c.Wheel.Spoke[at] = []impl.Pin{pin(-98, -98)} })
		}
	}
	return append(parts, func() {
		for at := range h.Cabins[:cap(h.Cabins)] {
			h.Cabins[:cap(h.Cabins)][at].Seats = impl.Ledger{Total: -99}
		}
	})
}

// TestNewHousesShareNoMemory also looks at the lists of one new state: what is
// written to one of them is seen in no other.
func TestNewHousesShareNoMemory(t *testing.T) {
	for _, r := range []impl.Rules{leastRules(), plainRules(), cabinRules(), mixedRules(), greatestRules()} {
		seats, all := roomyNums(r.Seats)
		was := slices.Clone(all)
		one, _ := impl.HouseNew(withSeats(r, seats...))
		two, _ := impl.HouseNew(withSeats(r, seats...))
		for part, spoil := range houseParts(one) {
			spoil()
			h, _ := impl.HouseNew(r)
			before := memoryOf(h)
			houseParts(h)[part]()
			if n := changedLists(before, memoryOf(h)); n > 1 {
				t.Errorf("%d lists of HouseNew(%v) change with one", n, r)
			}
		}
		if !slices.Equal(all, was) || !houseEqual(two, newHouse(r)) {
			t.Errorf("HouseNew(%v) shares memory: %v, %+v", r, all, two)
		}
		spoilNums(all)
		if !houseEqual(two, newHouse(r)) {
			t.Errorf("HouseNew(%v) keeps its argument", r)
		}
	}
}

func changedLists(a, b []any) int {
	n := 0
	for i := range a {
		if !reflect.DeepEqual(a[i], b[i]) {
			n++
		}
	}
	return n
}
