package tests

import (
	"math"
	"slices"
	"testing"

	"loop.example/g00494/impl"
)

// partyField is one number of a party, with the limits that the document sets.
type partyField struct {
	name  string
	least int
	most  int
	of    func(*impl.Party) *int
}

// partyFields has the fields whose limits do not depend on another field of the
// party; Cabin is among them for a From of -1.
func partyFields(r impl.Rules, now int) []partyField {
	return []partyField{
		{"Id", 1, 999, func(p *impl.Party) *int { return &p.Id }},
		{"Cabin", 0, len(r.Seats) - 1, func(p *impl.Party) *int { return &p.Cabin }},
		{"Size", 1, r.Size, func(p *impl.Party) *int { return &p.Size }},
		{"Tier", 0, r.Tiers - 1, func(p *impl.Party) *int { return &p.Tier }},
		{"Since", 0, now, func(p *impl.Party) *int { return &p.Since }},
		{"Turn", 1, 1000000, func(p *impl.Party) *int { return &p.Turn }},
		{"Asked", 0, r.Tries - 1, func(p *impl.Party) *int { return &p.Asked }},
	}
}

// allPartyFields also has the fields whose limits depend on others; their
// limits are left out.
func allPartyFields(r impl.Rules, now int) []partyField {
	return append(partyFields(r, now),
		partyField{name: "From", of: func(p *impl.Party) *int { return &p.From }},
		partyField{name: "State", of: func(p *impl.Party) *int { return &p.State }},
		partyField{name: "Until", of: func(p *impl.Party) *int { return &p.Until }})
}

func withPartyField(p impl.Party, f partyField, n int) impl.Party {
	*f.of(&p) = n
	return p
}

// waiter and holder have the least value in every field.
func waiter() impl.Party {
	return impl.Party{Id: 1, From: -1, Size: 1, Turn: 1, State: 1}
}

func holder() impl.Party {
	return impl.Party{Id: 1, From: -1, Size: 1, Turn: 1, State: 2, Until: 1}
}

// plainRules are small enough to count ticks by hand.
func plainRules() impl.Rules {
	return impl.Rules{Seats: []int{4, 10}, Tiers: 3, Room: 6, Size: 4, Period: 5, Window: 3, Rest: 2, Tries: 3, Crew: 2}
}

func partyRules() []impl.Rules {
	return []impl.Rules{plainRules(), mixedRules(), leastRules(), greatestRules()}
}

func someTicks() []int { return []int{0, 1, 2, 7, 60, 999999, 1000000} }

func wrongTicks() []int {
	return []int{-1, -2, -1000000, 1000001, 1000002, 1<<32 + 7, -1<<32 + 7, math.MaxInt - 8, math.MaxInt, math.MinInt, math.MinInt + 8}
}

// extremes include numbers whose sum with a small one wraps around.
func extremes() []int {
	return []int{math.MaxInt, math.MaxInt - 1, math.MaxInt - 8, math.MinInt, math.MinInt + 1, math.MinInt + 8}
}

// untilMost is the greatest Until that the party's State allows.
func untilMost(r impl.Rules, p impl.Party, now int) int {
	if p.State == 1 {
		return now + r.Rest
	}
	return now + r.Window
}

// greatestParty has the greatest value in every field but its State.
func greatestParty(r impl.Rules, p impl.Party, now int) impl.Party {
	for _, f := range partyFields(r, now) {
		p = withPartyField(p, f, f.most)
	}
	p.From = len(r.Seats) - 2
	p.Until = untilMost(r, p, now)
	return p
}

func baseParties(r impl.Rules, now int) []impl.Party {
	return []impl.Party{waiter(), holder(), greatestParty(r, waiter(), now), greatestParty(r, holder(), now)}
}

// badParties differ from a valid party in one field each.
func badParties(r impl.Rules, now int) []impl.Party {
	list := []impl.Party{{}, {Id: 1}, {Id: 1, From: -1, Size: 1, Turn: 1}}
	for _, p := range baseParties(r, now) {
		for _, f := range partyFields(r, now) {
			for _, n := range []int{f.least - 1, f.most + 1} {
				list = append(list, withPartyField(p, f, n))
			}
		}
		for _, f := range allPartyFields(r, now) {
			for _, n := range append(extremes(), 1<<32+*f.of(&p), -1<<32+*f.of(&p)) {
				list = append(list, withPartyField(p, f, n))
			}
		}
	}
	return list
}

func wantParty(t *testing.T, r impl.Rules, p impl.Party, now int, want bool) {
	t.Helper()
	if got := impl.PartyOk(r, p, now); got != want {
		t.Errorf("PartyOk(%v, %+v, %d) = %v, want %v", r, p, now, got, want)
	}
}

func wantLevelOf(t *testing.T, r impl.Rules, p impl.Party, now, want int) {
	t.Helper()
	if got := impl.LevelOf(r, p, now); got != want {
		t.Errorf("LevelOf(%v, %+v, %d) = %d, want %d", r, p, now, got, want)
	}
}

// wantState is the result of Resting and of Due.
func wantState(t *testing.T, p impl.Party, now int, resting, due bool) {
	t.Helper()
	if got := impl.Resting(p, now); got != resting {
		t.Errorf("Resting(%+v, %d) = %v, want %v", p, now, got, resting)
	}
	if got := impl.Due(p, now); got != due {
		t.Errorf("Due(%+v, %d) = %v, want %v", p, now, got, due)
	}
}

// wantOrder is the result of Before for a and b, and for b and a.
func wantOrder(t *testing.T, r impl.Rules, a, b impl.Party, now int, one, other bool) {
	t.Helper()
	if got := impl.Before(r, a, b, now); got != one {
		t.Errorf("Before(%v, %+v, %+v, %d) = %v, want %v", r, a, b, now, got, one)
	}
	if got := impl.Before(r, b, a, now); got != other {
		t.Errorf("Before(%v, %+v, %+v, %d) = %v, want %v", r, b, a, now, got, other)
	}
}

func wantNotFailed(t *testing.T, r impl.Rules, p impl.Party, now int) {
	t.Helper()
	if got, ok := impl.Failed(r, p, now); ok || got != (impl.Party{}) {
		t.Errorf("Failed(%v, %+v, %d) = %+v, %v, want the zero Party and false", r, p, now, got, ok)
	}
}

func wantFailed(t *testing.T, r impl.Rules, p impl.Party, now int) impl.Party {
	t.Helper()
	want := p
	want.Asked, want.State, want.Until = p.Asked+1, 1, now+r.Rest
	got, ok := impl.Failed(r, p, now)
	if !ok || got != want {
		t.Errorf("Failed(%v, %+v, %d) = %+v, %v, want %+v, true", r, p, now, got, ok, want)
	}
	return got
}

func TestPartyLimits(t *testing.T) {
	got := []int{impl.MaxTick, impl.MaxTurn, impl.MaxId, impl.PtWaits, impl.PtOffered}
	if want := []int{1000000, 1000000, 999, 1, 2}; !slices.Equal(got, want) {
		t.Errorf("the limits are %v, want %v", got, want)
	}
}

func TestPartyOk(t *testing.T) {
	r := plainRules()
	for _, c := range []struct {
		p    impl.Party
		now  int
		want bool
	}{
		{impl.Party{Id: 1, Cabin: 1, From: -1, Size: 2, Tier: 2, Since: 0, Turn: 1, State: 1}, 7, true},
		{impl.Party{Id: 2, Cabin: 1, From: 0, Size: 4, Tier: 1, Since: 5, Turn: 2, State: 2, Until: 9}, 7, true},
		{impl.Party{Id: 2, Cabin: 1, From: 0, Size: 4, Tier: 1, Since: 5, Turn: 2, State: 2, Until: 9}, 6, true},
		{impl.Party{Id: 2, Cabin: 1, From: 0, Size: 4, Tier: 1, Since: 5, Turn: 2, State: 2, Until: 9}, 5, false},
		{impl.Party{Id: 2, Cabin: 1, From: 0, Size: 4, Tier: 1, Since: 5, Turn: 2, State: 2, Until: 7}, 4, false},
		{impl.Party{Id: 2, Cabin: 1, From: 0, Size: 4, Tier: 1, Since: 5, Turn: 2, State: 2, Until: 9}, 500, true},
		{impl.Party{Id: 3, Cabin: 0, From: 1, Size: 1, Tier: 0, Since: 3, Turn: 9, State: 1, Until: 9, Asked: 2}, 7, true},
		{impl.Party{Id: 3, Cabin: 0, From: 1, Size: 1, Tier: 0, Since: 3, Turn: 9, State: 1, Until: 10, Asked: 2}, 7, false},
		{impl.Party{Id: 3, Cabin: 0, From: 1, Size: 1, Tier: 0, Since: 3, Turn: 9, State: 1, Until: 9, Asked: 3}, 7, false},
		{impl.Party{Id: 3, Cabin: 1, From: 1, Size: 1, Tier: 0, Since: 3, Turn: 9, State: 1}, 7, false},
		{impl.Party{Id: 3, Cabin: 2, From: -1, Size: 1, Tier: 0, Since: 3, Turn: 9, State: 1}, 7, false},
		{impl.Party{Id: 3, Cabin: 1, From: -1, Size: 5, Tier: 0, Since: 3, Turn: 9, State: 1}, 7, false},
		{impl.Party{Id: 3, Cabin: 1, From: -1, Size: 4, Tier: 3, Since: 3, Turn: 9, State: 1}, 7, false},
		{impl.Party{}, 0, false},
	} {
		wantParty(t, r, c.p, c.now, c.want)
	}
}

func TestPartyFields(t *testing.T) {
	for _, r := range partyRules() {
		for _, now := range someTicks() {
			for _, p := range []impl.Party{waiter(), holder()} {
				for _, f := range partyFields(r, now) {
					for _, n := range []int{f.least, f.most, (f.least + f.most) / 2} {
						wantParty(t, r, withPartyField(p, f, n), now, true)
					}
				}
			}
			for _, p := range badParties(r, now) {
				wantParty(t, r, p, now, false)
			}
		}
	}
}

// TestPartyGreatest has the least and the greatest value in all fields at once.
func TestPartyGreatest(t *testing.T) {
	for _, r := range partyRules() {
		for _, now := range someTicks() {
			for _, p := range baseParties(r, now) {
				wantParty(t, r, p, now, true)
			}
		}
	}
	for _, n := range append(extremes(), 0, 1, 2, -1) {
		p := impl.Party{Id: n, Cabin: n, From: n, Size: n, Tier: n, Since: n, Turn: n, State: n, Until: n, Asked: n}
		for _, now := range append(extremes(), 0, 1, 1000000) {
			wantParty(t, greatestRules(), p, now, false)
		}
	}
}

func TestPartyFrom(t *testing.T) {
	for cabins := 1; cabins <= 4; cabins++ {
		r := withSeat(plainRules(), cabins, 0, 30)
		for cabin := -2; cabin < 7; cabin++ {
			for from := -3; from < 7; from++ {
				there := cabin >= 0 && cabin < cabins
				other := from == -1 || from >= 0 && from < cabins && from != cabin
				for _, p := range []impl.Party{waiter(), holder()} {
					p.Cabin, p.From = cabin, from
					wantParty(t, r, p, 7, there && other)
				}
			}
		}
	}
}

// TestPartyUntil visits each tick around the limits of Until, for each Rest and
// each Window.
func TestPartyUntil(t *testing.T) {
	for rest := 0; rest <= 8; rest++ {
		for window := 1; window <= 8; window++ {
			r := plainRules()
			r.Rest, r.Window = rest, window
			for _, now := range someTicks() {
				for near := -3; near <= 12; near++ {
					for _, until := range []int{near, now + near} {
						p, q := waiter(), holder()
						p.Until, q.Until = until, until
						wantParty(t, r, p, now, until >= 0 && until <= now+rest)
						wantParty(t, r, q, now, until >= 1 && until <= now+window)
					}
				}
			}
		}
	}
}

func TestPartyState(t *testing.T) {
	for _, state := range append(extremes(), -2, -1, 0, 3, 4, 257, 258, 1<<32+1, 1<<32+2) {
		for _, until := range []int{0, 1, 7, 8} {
			p := waiter()
			p.State, p.Until = state, until
			wantParty(t, plainRules(), p, 7, false)
		}
	}
}

func TestPartyRules(t *testing.T) {
	for _, r := range okRules() {
		for _, p := range []impl.Party{waiter(), holder()} {
			wantParty(t, r, p, 0, true)
			wantParty(t, r, p, 1000000, true)
		}
	}
	for _, r := range badRules() {
		for _, p := range []impl.Party{waiter(), holder()} {
			for _, now := range []int{0, 7, 1000000, -1, math.MaxInt, math.MinInt} {
				wantParty(t, r, p, now, false)
				wantLevelOf(t, r, p, now, -1)
				wantOrder(t, r, p, holder(), now, false, false)
				wantNotFailed(t, r, p, now)
			}
		}
	}
}

func TestPartyNow(t *testing.T) {
	for _, r := range partyRules() {
		for _, now := range wrongTicks() {
			for _, p := range append(baseParties(r, 0), baseParties(r, 1000000)...) {
				// Where now is too small, Since and Until of now would fit best.
				q := p
				q.Since, q.Until = now, now
				for _, p := range []impl.Party{p, q} {
					wantParty(t, r, p, now, false)
					wantLevelOf(t, r, p, now, -1)
					wantOrder(t, r, p, q, now, false, false)
					wantNotFailed(t, r, p, now)
				}
			}
		}
	}
}

// TestOfferExpires has the tick at which an offer expires, the one before and
// the one after.
func TestOfferExpires(t *testing.T) {
	for _, until := range []int{1, 2, 9, 999999, 1000000, 1000008, 0, -1, -7, math.MinInt + 1, math.MaxInt - 1} {
		p := holder()
		p.Until = until
		wantState(t, p, until-1, false, false)
		wantState(t, p, until, false, true)
		wantState(t, p, until+1, false, true)
		p.State = 1
		wantState(t, p, until-1, true, false)
		wantState(t, p, until, false, false)
		wantState(t, p, until+1, false, false)
		for _, state := range append(extremes(), 0, -1, 3, 257, 258, 1<<32+1, 1<<32+2) {
			p.State = state
			for near := -1; near <= 1; near++ {
				wantState(t, p, until+near, false, false)
			}
		}
	}
}

func TestExpiryAtTheExtremes(t *testing.T) {
	ticks := append(extremes(), -1, 0, 1)
	for _, until := range ticks {
		for _, now := range ticks {
			p := impl.Party{State: 1, Until: until}
			wantState(t, p, now, until > now, false)
			p.State = 2
			wantState(t, p, now, false, until <= now)
		}
	}
}

// TestStateAlone has parties that are not PartyOk, which Resting and Due do not
// ask for.
func TestStateAlone(t *testing.T) {
	for _, p := range badParties(plainRules(), 7) {
		for _, now := range append(extremes(), wrongTicks()...) {
			wantState(t, p, now, p.State == 1 && p.Until > now, p.State == 2 && p.Until <= now)
		}
	}
}

// TestOfferRuns counts the ticks of an offer and of the rest after it.
func TestOfferRuns(t *testing.T) {
	for _, r := range okRules() {
		p := holder()
		p.Until = 20 + r.Window
		open := 0
		for now := 20; now <= 40; now++ {
			if !impl.Due(p, now) {
				open++
			}
		}
		q := waiter()
		q.Until = 20 + r.Rest
		rest := 0
		for now := 20; now <= 40; now++ {
			if impl.Resting(q, now) {
				rest++
			}
		}
		if open != r.Window || rest != r.Rest {
			t.Errorf("an offer is open for %d ticks and a rest takes %d, want %d and %d", open, rest, r.Window, r.Rest)
		}
	}
}

func TestLevelOf(t *testing.T) {
	r := plainRules()
	for _, c := range []struct{ tier, since, now, want int }{
		{2, 0, 0, 2}, {2, 0, 4, 2}, {2, 0, 5, 1}, {2, 0, 6, 1}, {2, 0, 9, 1}, {2, 0, 10, 0}, {2, 0, 11, 0}, {2, 0, 15, 0}, {2, 0, 1000000, 0},
		{2, 3, 3, 2}, {2, 3, 7, 2}, {2, 3, 8, 1}, {2, 3, 12, 1}, {2, 3, 13, 0}, {2, 3, 2, -1}, {2, 3, 0, -1},
		{1, 7, 7, 1}, {1, 7, 11, 1}, {1, 7, 12, 0}, {1, 7, 17, 0}, {0, 7, 7, 0}, {0, 7, 100, 0}, {0, 7, 6, -1},
		{2, 1000000, 1000000, 2}, {2, 999995, 1000000, 1}, {2, 999996, 1000000, 2}, {2, 0, 1000001, -1}, {3, 0, 0, -1}, {-1, 0, 0, -1},
	} {
		for _, p := range []impl.Party{waiter(), holder()} {
			p.Tier, p.Since = c.tier, c.since
			wantLevelOf(t, r, p, c.now, c.want)
		}
	}
}

// TestLevelOfChanges visits every tick of a party's wait, for each number of
// tiers and each period.
func TestLevelOfChanges(t *testing.T) {
	for _, r := range periodRules() {
		for tier := range r.Tiers {
			for _, since := range []int{0, 1, 5, 999900} {
				p := holder()
				p.Tier, p.Since, p.Asked = tier, since, r.Tries-1
				wantLevelOf(t, r, p, since-1, -1)
				for waited := range 75 {
					wantLevelOf(t, r, p, since+waited, levelAfter(r, tier, waited))
				}
			}
		}
	}
}

// TestInvalidParties has the functions that ask for PartyOk.
func TestInvalidParties(t *testing.T) {
	for _, r := range partyRules() {
		for _, now := range someTicks() {
			good := greatestParty(r, waiter(), now)
			for _, p := range badParties(r, now) {
				wantLevelOf(t, r, p, now, -1)
				wantOrder(t, r, p, good, now, false, false)
				wantOrder(t, r, p, p, now, false, false)
				wantNotFailed(t, r, p, now)
			}
		}
	}
	for _, a := range badParties(plainRules(), 7) {
		for _, b := range badParties(plainRules(), 7) {
			wantOrder(t, plainRules(), a, b, 7, false, false)
		}
	}
}

func TestBefore(t *testing.T) {
	r := plainRules()
	party := func(tier, since, turn int) impl.Party {
		p := waiter()
		p.Tier, p.Since, p.Turn = tier, since, turn
		return p
	}
	for _, c := range []struct {
		a, b       impl.Party
		now        int
		one, other bool
	}{
		{party(1, 3, 4), party(1, 3, 5), 7, true, false},
		{party(1, 3, 5), party(1, 3, 5), 7, false, false},
		{party(1, 3, 1), party(1, 3, 1000000), 7, true, false},
		{party(0, 3, 9), party(1, 3, 5), 7, true, false},
		{party(0, 3, 5), party(2, 3, 5), 7, true, false},
		{party(0, 3, 2), party(2, 3, 5), 7, true, false},
		{party(2, 0, 5), party(1, 3, 6), 4, false, true},
		{party(2, 0, 5), party(1, 3, 6), 5, true, false},
		{party(2, 0, 5), party(1, 3, 6), 7, true, false},
		{party(2, 0, 5), party(1, 3, 6), 8, false, true},
		{party(2, 0, 5), party(1, 3, 6), 9, false, true},
		{party(2, 0, 5), party(1, 3, 6), 10, true, false},
		{party(2, 0, 5), party(1, 3, 6), 2, false, false},
		{party(2, 0, 6), party(2, 1, 5), 4, false, true},
		{party(2, 0, 6), party(2, 1, 5), 5, true, false},
		{party(2, 0, 6), party(2, 1, 5), 6, false, true},
		{party(1, 3, 4), party(1, 3, 0), 7, false, false},
		{party(1, 3, 4), party(3, 3, 9), 7, false, false},
		{party(1, 8, 4), party(1, 8, 5), 7, false, false},
	} {
		wantOrder(t, r, c.a, c.b, c.now, c.one, c.other)
	}
}

// TestBeforeLooksAtNothingElse has two parties that differ in every field but
// Tier and Since, so that their Turn decides.
func TestBeforeLooksAtNothingElse(t *testing.T) {
	r := mixedRules()
	for _, turns := range [][2]int{{1, 2}, {2, 1}, {8, 8}, {999999, 1000000}, {1000000, 1}} {
		a := impl.Party{Id: 999, Cabin: 3, From: 2, Size: 6, Tier: 3, Since: 4, Turn: turns[0], State: 1, Until: 9, Asked: 3}
		b := impl.Party{Id: 1, Cabin: 0, From: -1, Size: 1, Tier: 3, Since: 4, Turn: turns[1], State: 2, Until: 1}
		for now := 4; now <= 60; now++ {
			wantOrder(t, r, a, b, now, turns[0] < turns[1], turns[1] < turns[0])
		}
	}
}

func TestBeforeDefinition(t *testing.T) {
	for _, period := range []int{1, 2, 5, 12} {
		r := mixedRules()
		r.Period = period
		var list []impl.Party
		for tier := range r.Tiers {
			for _, since := range []int{0, 1, 4, 7} {
				for turn := 1; turn <= 3; turn++ {
					p := waiter()
					p.Tier, p.Since, p.Turn = tier, since, turn
					list = append(list, p)
				}
			}
		}
		for _, now := range []int{0, 3, 4, 7, 8, 15, 30, 59, 60, 1000000} {
			for _, a := range list {
				for _, b := range list {
					want := false
					if a.Since <= now && b.Since <= now {
						one, other := levelAfter(r, a.Tier, now-a.Since), levelAfter(r, b.Tier, now-b.Since)
						want = one < other || one == other && a.Turn < b.Turn
					}
					if got := impl.Before(r, a, b, now); got != want {
						t.Errorf("Before(%v, %+v, %+v, %d) = %v, want %v", r, a, b, now, got, want)
					}
				}
			}
		}
	}
}

// TestSameTierKeepsItsOrder is the first half of P6: of two parties of the same
// tier, the one that joined earlier is Before the other at every tick.
func TestSameTierKeepsItsOrder(t *testing.T) {
	for _, r := range periodRules() {
		for tier := range r.Tiers {
			for _, since := range []int{0, 6, 999900} {
				for later := range 14 {
					a, b := waiter(), holder()
					a.Id, b.Id = 2, 1
					a.Tier, a.Since, a.Turn = tier, since, 7
					b.Tier, b.Since, b.Turn = tier, since+later, 8
					wantOrder(t, r, a, b, b.Since-1, false, false)
					for now := b.Since; now <= b.Since+66; now++ {
						wantOrder(t, r, a, b, now, true, false)
					}
					wantOrder(t, r, a, b, 1000000, true, false)
				}
			}
		}
	}
}

func TestFailed(t *testing.T) {
	r := plainRules()
	p := impl.Party{Id: 12, Cabin: 1, From: 0, Size: 3, Tier: 2, Since: 4, Turn: 77, State: 2, Until: 9}
	for _, c := range []struct{ now, until int }{{6, 8}, {8, 10}, {9, 11}, {10, 12}, {500, 502}, {1000000, 1000002}} {
		want := impl.Party{Id: 12, Cabin: 1, From: 0, Size: 3, Tier: 2, Since: 4, Turn: 77, State: 1, Until: c.until, Asked: 1}
		if got, ok := impl.Failed(r, p, c.now); !ok || got != want {
			t.Errorf("Failed at %d = %+v, %v, want %+v, true", c.now, got, ok, want)
		}
	}
	p.Asked = 1
	if got := wantFailed(t, r, p, 8); got.Asked != 2 || got.Until != 10 || !impl.Resting(got, 9) || impl.Resting(got, 10) {
		t.Errorf("Failed = %+v", got)
	}
	p.Asked = 2
	wantNotFailed(t, r, p, 8)
	p.Asked = 3
	wantNotFailed(t, r, p, 8)
	p.Asked, p.State = 0, 1
	wantNotFailed(t, r, p, 8)
	p.State, p.Until = 2, 12
	wantNotFailed(t, r, p, 8)
}

// TestFailedTries has each number of offers that were not taken, for each
// number of tries and each rest.
func TestFailedTries(t *testing.T) {
	for tries := 1; tries <= 4; tries++ {
		for rest := 0; rest <= 8; rest++ {
			r := mixedRules()
			r.Tries, r.Rest = tries, rest
			for _, now := range someTicks() {
				for _, p := range []impl.Party{holder(), greatestParty(r, holder(), now)} {
					for asked := range tries - 1 {
						p.Asked = asked
						wantFailed(t, r, p, now)
					}
					for _, asked := range []int{tries - 1, tries, tries + 1, -1} {
						p.Asked = asked
						wantNotFailed(t, r, p, now)
					}
				}
			}
		}
	}
}

func TestFailedAsksForAnOffer(t *testing.T) {
	for _, r := range partyRules() {
		for _, now := range someTicks() {
			for asked := range r.Tries {
				for _, state := range []int{1, 0, 3, -1} {
					p := waiter()
					p.State, p.Asked, p.Until = state, asked, 0
					wantNotFailed(t, r, p, now)
					p.Until = now + r.Rest
					wantNotFailed(t, r, p, now)
				}
			}
		}
	}
}

// TestPartiesThatTakeNothingAreRemoved is the second half of P6: a party that
// takes none of its offers waits again after each of them, with Asked one
// greater, until its last try.
func TestPartiesThatTakeNothingAreRemoved(t *testing.T) {
	for _, r := range okRules() {
		p := waiter()
		p.Since = 3
		now, offers := 3, 0
		for there := true; there; offers++ {
			if offers > 4 {
				t.Fatalf("Rules %v: the party is still there after %d offers", r, offers)
			}
			p.State, p.Until = 2, now+r.Window
			wantParty(t, r, p, now, true)
			now = p.Until
			wantState(t, p, now, false, true)
			was := p
			if p, there = impl.Failed(r, p, now); !there {
				break
			}
			if p.Asked != was.Asked+1 || p.State != 1 || p.Until != now+r.Rest {
				t.Errorf("Failed(%v, %+v, %d) = %+v", r, was, now, p)
			}
			wantParty(t, r, p, now, true)
			now = p.Until
			wantState(t, p, now, false, false)
		}
		if offers != r.Tries-1 || p != (impl.Party{}) {
			t.Errorf("Rules %v: the party %+v waits again %d times, want %d", r, p, offers, r.Tries-1)
		}
	}
}

// TestPartyArgumentsAreKept covers the unused capacity of Seats, which would
// make some of the rules and cabins valid.
func TestPartyArgumentsAreKept(t *testing.T) {
	for _, r := range append(okRules(), badRules()...) {
		seats, all := roomyNums(r.Seats)
		was := slices.Clone(all)
		room := withSeats(r, seats...)
		list := []impl.Party{waiter(), holder(), greatestParty(r, holder(), 7)}
		for _, cabin := range []int{len(r.Seats), len(r.Seats) + 1} {
			p := holder()
			p.Cabin = cabin
			list = append(list, p)
		}
		kept := slices.Clone(list)
		for i := range list {
			a, b := list[i], list[(i+1)%len(list)]
			one, ok := impl.Failed(r, a, 7)
			two, also := impl.Failed(room, a, 7)
			if one != two || ok != also || impl.PartyOk(room, a, 7) != impl.PartyOk(r, a, 7) || impl.LevelOf(room, a, 7) != impl.LevelOf(r, a, 7) || impl.Before(room, a, b, 7) != impl.Before(r, a, b, 7) {
				t.Errorf("the capacity of Seats of %v is read", r)
			}
		}
		if !slices.Equal(all, was) || !rulesEqual(room, r) || !slices.Equal(list, kept) {
			t.Errorf("Seats %v became %v", was, all)
		}
	}
}
