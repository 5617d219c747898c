package tests

import (
	"math"
	"slices"
	"testing"

	"loop.example/g00494/impl"
)

// cabinRules have room for all of cabinParties.
func cabinRules() impl.Rules {
	return impl.Rules{Seats: []int{20, 30, 40}, Tiers: 3, Room: 6, Size: 4, Period: 5, Window: 3, Rest: 2, Tries: 3, Crew: 2}
}

// cabinTick is the tick at which the cabins of threeCabins agree.
const cabinTick = 7

func cabinParties() []impl.Party {
	return []impl.Party{
		{Id: 1, Cabin: 0, From: -1, Size: 4, Tier: 2, Since: 6, Turn: 8, State: 1},
		{Id: 2, Cabin: 1, From: 0, Size: 3, Tier: 1, Since: 1, Turn: 2, State: 2, Until: 10},
		{Id: 3, Cabin: 0, From: 1, Size: 1, Tier: 0, Since: 5, Turn: 6, State: 2, Until: 9},
		{Id: 4, Cabin: 1, From: -1, Size: 2, Tier: 1, Since: 3, Turn: 4, State: 1, Until: 9, Asked: 1},
		{Id: 5, Cabin: 0, From: 2, Size: 2, Tier: 2, Since: 2, Turn: 3, State: 1},
		{Id: 6, Cabin: 1, From: 2, Size: 1, Tier: 1, Since: 4, Turn: 5, State: 1},
		{Id: 7, Cabin: 1, From: -1, Size: 4, Tier: 0, Since: 0, Turn: 1, State: 2, Until: 8, Asked: 2},
		{Id: 8, Cabin: 0, From: -1, Size: 2, Tier: 1, Since: 5, Turn: 7, State: 2, Until: 8},
		{Id: 9, Cabin: 1, From: 0, Size: 1, Tier: 2, Since: 7, Turn: 9, State: 2, Until: 8},
	}
}

// threeCabins are those of cabinParties, made by hand; nobody wants the last one.
func threeCabins() []impl.Cabin {
	return []impl.Cabin{
		{
			Seats: ledger(20, 5, 3, 12, 4),
			Row:   []impl.Entry{{Level: 1, Turn: 3, Id: 5, Size: 2}, {Level: 2, Turn: 8, Id: 1, Size: 4}},
			Wheel: wheel(pin(8, 8), pin(9, 3)),
		},
		{
			Seats: ledger(30, 0, 8, 22, 1),
			Row:   []impl.Entry{{Level: 1, Turn: 4, Id: 4, Size: 2}, {Level: 1, Turn: 5, Id: 6, Size: 1}},
			Wheel: wheel(pin(8, 7), pin(8, 9), pin(10, 2)),
		},
		{Seats: ledger(40, 1, 0, 39, 3), Wheel: noPins()},
	}
}

// seatSum is the sum of the sizes from 1 to MaxSize of the parties of a kind.
func seatSum(list []impl.Party, is func(impl.Party) bool) int {
	n := 0
	for _, p := range list {
		if is(p) && p.Size >= 1 && p.Size <= 6 {
			n += p.Size
		}
	}
	return n
}

func heldSum(list []impl.Party, cabin int) int {
	return seatSum(list, func(p impl.Party) bool { return p.State == 2 && p.Cabin == cabin })
}

func tiedSum(list []impl.Party, cabin int) int {
	return seatSum(list, func(p impl.Party) bool { return p.From == cabin })
}

func countSum(list []impl.Party, cabin int) int {
	n := 0
	for _, p := range list {
		if p.Cabin == cabin {
			n++
		}
	}
	return n
}

func pinsFound(list []impl.Party, cabin int) []impl.Pin {
	var pins []impl.Pin
	for _, p := range list {
		if p.State == 2 && p.Cabin == cabin {
			pins = append(pins, pin(p.Until, p.Id))
		}
	}
	return sorted(pins)
}

func cabinValid(c impl.Cabin) bool {
	return ledgerValid(c.Seats) && impl.QueueOk(c.Row) && wheelValid(c.Wheel)
}

// agreed is the document's Agrees, written out.
func agreed(r impl.Rules, c impl.Cabin, list []impl.Party, cabin, now int) bool {
	return cabinValid(c) &&
		slices.Equal(c.Row, impl.QueueOf(r, list, cabin, now)) &&
		slices.Equal(sorted(allPins(c.Wheel)), pinsFound(list, cabin)) &&
		c.Seats.Held == heldSum(list, cabin) && c.Seats.Tied == tiedSum(list, cabin)
}

// cabinMade is the cabin that the parties make, with some seats more than they
// need, whether or not it is valid.
func cabinMade(r impl.Rules, list []impl.Party, cabin, now, free, more int) impl.Cabin {
	held, tied := heldSum(list, cabin), tiedSum(list, cabin)
	return impl.Cabin{
		Seats: ledger(free+held+tied+more, free, held, tied+more, tied),
		Row:   impl.QueueOf(r, list, cabin, now),
		Wheel: wheel(pinsFound(list, cabin)...),
	}
}

func withWheel(c impl.Cabin, pins ...impl.Pin) impl.Cabin {
	c.Wheel = wheel(pins...)
	return c
}

func withRow(c impl.Cabin, row ...impl.Entry) impl.Cabin {
	c.Row = row
	return c
}

func withLedger(c impl.Cabin, l impl.Ledger) impl.Cabin {
	c.Seats = l
	return c
}

func cabinEqual(a, b impl.Cabin) bool {
	return a.Seats == b.Seats && slices.Equal(a.Row, b.Row) && wheelEqual(a.Wheel, b.Wheel)
}

func wantCabin(t *testing.T, c impl.Cabin, want bool) {
	t.Helper()
	if got := impl.CabinOk(c); got != want {
		t.Errorf("CabinOk(%+v) = %v, want %v", c, got, want)
	}
}

func wantSums(t *testing.T, list []impl.Party, cabin, held, tied, count int) {
	t.Helper()
	if got := impl.HeldIn(list, cabin); got != held {
		t.Errorf("HeldIn(%+v, %d) = %d, want %d", list, cabin, got, held)
	}
	if got := impl.TiedIn(list, cabin); got != tied {
		t.Errorf("TiedIn(%+v, %d) = %d, want %d", list, cabin, got, tied)
	}
	if got := impl.CountIn(list, cabin); got != count {
		t.Errorf("CountIn(%+v, %d) = %d, want %d", list, cabin, got, count)
	}
}

func wantPinsIn(t *testing.T, list []impl.Party, cabin int, want ...impl.Pin) {
	t.Helper()
	if got := impl.PinsIn(list, cabin); !slices.Equal(got, want) {
		t.Errorf("PinsIn(%+v, %d) = %v, want %v", list, cabin, got, want)
	}
}

// wantFound compares with the sums and the pins written out.
func wantFound(t *testing.T, list []impl.Party, cabin int) {
	t.Helper()
	wantSums(t, list, cabin, heldSum(list, cabin), tiedSum(list, cabin), countSum(list, cabin))
	wantPinsIn(t, list, cabin, pinsFound(list, cabin)...)
}

func wantAgrees(t *testing.T, r impl.Rules, c impl.Cabin, list []impl.Party, cabin, now int, want bool) {
	t.Helper()
	if got := impl.Agrees(r, c, list, cabin, now); got != want {
		t.Errorf("Agrees(%v, %+v, %+v, %d, %d) = %v, want %v", r, c, list, cabin, now, got, want)
	}
}

// wantSameCabin is the result for a and b, and for b and a.
func wantSameCabin(t *testing.T, a, b impl.Cabin, want bool) {
	t.Helper()
	if got := impl.SameCabin(a, b); got != want {
		t.Errorf("SameCabin(%+v, %+v) = %v, want %v", a, b, got, want)
	}
	if got := impl.SameCabin(b, a); got != want {
		t.Errorf("SameCabin(%+v, %+v) = %v, want %v", b, a, got, want)
	}
}

func TestCabinNew(t *testing.T) {
	for total := -70; total <= 130; total++ {
		got, ok := impl.CabinNew(total)
		if total < 1 || total > 60 {
			if ok || !cabinEqual(got, impl.Cabin{}) {
				t.Errorf("CabinNew(%d) = %+v, %v, want the zero Cabin and false", total, got, ok)
			}
			continue
		}
		if want := (impl.Cabin{Seats: ledger(total, 0, 0, total, 0), Wheel: noPins()}); !ok || !cabinEqual(got, want) {
			t.Errorf("CabinNew(%d) = %+v, %v, want %+v, true", total, got, ok, want)
		}
		wantCabin(t, got, true)
	}
	for _, total := range append(extremes(), 1000000, 1<<32, 1<<32+8, -1<<32+8, -1000000) {
		if got, ok := impl.CabinNew(total); ok || !cabinEqual(got, impl.Cabin{}) {
			t.Errorf("CabinNew(%d) = %+v, %v, want the zero Cabin and false", total, got, ok)
		}
	}
}

// TestNewCabinAgrees has no parties: a new cabin agrees with them at any tick,
// by any rules and as any cabin, since neither of these has a condition.
func TestNewCabinAgrees(t *testing.T) {
	for total := 1; total <= 60; total++ {
		c, _ := impl.CabinNew(total)
		for _, now := range slices.Concat(someTicks(), wrongTicks(), extremes()) {
			for _, cabin := range append(extremes(), -1, 0, 1, 2, 3, 4) {
				wantAgrees(t, cabinRules(), c, nil, cabin, now, true)
				wantAgrees(t, greatestRules(), c, []impl.Party{}, cabin, now, true)
				wantAgrees(t, impl.Rules{}, c, nil, cabin, now, true)
			}
		}
	}
	for _, total := range []int{0, -1, 61} {
		c, _ := impl.CabinNew(total)
		wantAgrees(t, cabinRules(), c, nil, 0, cabinTick, false)
	}
}

func TestCabinOk(t *testing.T) {
	for _, c := range threeCabins() {
		wantCabin(t, c, true)
	}
	for _, l := range someLedgers() {
		wantCabin(t, withLedger(threeCabins()[1], l), true)
	}
	for _, row := range goodRows() {
		for _, w := range goodWheels() {
			wantCabin(t, impl.Cabin{Seats: ledger(8, 3, 2, 3, 1), Row: row, Wheel: w}, true)
		}
	}
	// The three parts are not compared: nothing is held for these pins, and the
	// party of a pin also has an entry.
	wantCabin(t, impl.Cabin{Seats: ledger(8, 0, 0, 8, 0), Row: []impl.Entry{middleEntry()}, Wheel: wheel(pin(8, 50))}, true)
}

// TestCabinOkOnePart has each part wrong while the others are valid.
func TestCabinOkOnePart(t *testing.T) {
	for _, c := range threeCabins() {
		for _, l := range badLedgers() {
			wantCabin(t, withLedger(c, l), false)
		}
		for _, row := range badRows() {
			wantCabin(t, withRow(c, row...), false)
		}
		for _, w := range badWheels() {
			broken := c
			broken.Wheel = w
			wantCabin(t, broken, false)
		}
		wantCabin(t, withLedger(c, ledger(20, 5, 3, 13, 4)), false)
		wantCabin(t, withLedger(c, ledger(20, 5, 3, 12, 13)), false)
		wantCabin(t, withRow(c, impl.Entry{Level: 2, Turn: 8, Id: 1, Size: 4}, impl.Entry{Level: 1, Turn: 3, Id: 5, Size: 2}), false)
		wantCabin(t, withRow(c, impl.Entry{Level: 1, Turn: 3, Id: 5, Size: 2}, impl.Entry{Level: 2, Turn: 8, Id: 5, Size: 4}), false)
		wantCabin(t, impl.Cabin{Seats: c.Seats, Row: c.Row}, false)
		wantCabin(t, impl.Cabin{Seats: c.Seats, Wheel: c.Wheel}, true)
		wantCabin(t, impl.Cabin{Row: c.Row, Wheel: c.Wheel}, false)
	}
	wantCabin(t, impl.Cabin{}, false)
	wantCabin(t, impl.Cabin{Wheel: noPins()}, false)
	wantCabin(t, impl.Cabin{Seats: ledger(8, 0, 0, 8, 0), Wheel: lists(make([][]impl.Pin, 8)...)}, false)
}

func TestSums(t *testing.T) {
	list := cabinParties()
	wantSums(t, list, 0, 3, 4, 4)
	wantSums(t, list, 1, 8, 1, 5)
	wantSums(t, list, 2, 0, 3, 0)
	wantPinsIn(t, list, 0, pin(8, 8), pin(9, 3))
	wantPinsIn(t, list, 1, pin(8, 7), pin(8, 9), pin(10, 2))
	wantPinsIn(t, list, 2)
	// Four parties have no cabin that they give seats back in: their From is -1.
	wantSums(t, list, -1, 0, 12, 0)
	wantPinsIn(t, list, -1)
	for _, cabin := range append(extremes(), -2, -7, 3, 4, 9, 1<<32, 1<<32+1, -1<<32, -1<<32+1) {
		wantSums(t, list, cabin, 0, 0, 0)
		wantPinsIn(t, list, cabin)
	}
	for _, cabin := range append(extremes(), -2, -1, 0, 1, 2, 3, 4) {
		wantSums(t, nil, cabin, 0, 0, 0)
		wantSums(t, []impl.Party{}, cabin, 0, 0, 0)
		wantPinsIn(t, nil, cabin)
		wantPinsIn(t, []impl.Party{}, cabin)
	}
}

// TestSumsByState has lists in which all parties wait, all are offered, and
// some are.
func TestSumsByState(t *testing.T) {
	for chosen := range 1 << 9 {
		list := cabinParties()
		for i := range list {
			list[i].State = 1 + chosen>>i&1
		}
		for cabin := -1; cabin <= 3; cabin++ {
			wantFound(t, list, cabin)
		}
		if chosen == 0 {
			wantSums(t, list, 0, 0, 4, 4)
			wantPinsIn(t, list, 0)
		}
		if chosen == 1<<9-1 {
			wantSums(t, list, 0, 9, 4, 4)
			wantPinsIn(t, list, 0, pin(0, 1), pin(0, 5), pin(8, 8), pin(9, 3))
		}
	}
}

// TestSumsByCabin has lists in which no party, some and all of them have the
// cabin, as theirs or to give seats back in.
func TestSumsByCabin(t *testing.T) {
	for chosen := range 1 << 9 {
		list, back := cabinParties(), cabinParties()
		for i := range list {
			list[i].Cabin, list[i].From = 2+chosen>>i&1, -1
			back[i].Cabin, back[i].From = 0, 2+chosen>>i&1
		}
		for _, cabin := range []int{-1, 0, 2, 3} {
			wantFound(t, list, cabin)
			wantFound(t, back, cabin)
		}
		if chosen == 0 {
			wantSums(t, list, 2, 11, 0, 9)
			wantSums(t, list, 3, 0, 0, 0)
			wantSums(t, back, 2, 0, 20, 0)
			wantSums(t, back, 3, 0, 0, 0)
			wantSums(t, back, 0, 11, 0, 9)
		}
	}
}

// TestSumsBySize ignores a Size that no party can have; the party counts, and
// its offer has a pin. The rules' own Size sets no limit here.
func TestSumsBySize(t *testing.T) {
	list := cabinParties()
	for size := -3; size <= 10; size++ {
		want := 0
		if size >= 1 && size <= 6 {
			want = size
		}
		p := impl.Party{Id: 70, Cabin: 0, From: 1, Size: size, Turn: 30, State: 2, Until: 8}
		wantSums(t, []impl.Party{p}, 0, want, 0, 1)
		wantSums(t, []impl.Party{p}, 1, 0, want, 0)
		wantPinsIn(t, []impl.Party{p}, 0, pin(8, 70))
		for at := range len(list) + 1 {
			wantSums(t, slices.Insert(cabinParties(), at, p), 0, 3+want, 4, 5)
			wantSums(t, slices.Insert(cabinParties(), at, p), 1, 8, 1+want, 5)
			wantPinsIn(t, slices.Insert(cabinParties(), at, p), 0, pin(8, 8), pin(8, 70), pin(9, 3))
		}
	}
	for _, size := range append(extremes(), 1<<32, 1<<32+1, -1<<32+1, 1<<62, -1<<62) {
		p := impl.Party{Id: 70, Cabin: 0, From: 1, Size: size, Turn: 30, State: 2, Until: 8}
		wantSums(t, []impl.Party{p, p, list[2]}, 0, 1, 0, 3)
		wantSums(t, []impl.Party{p, list[2], p}, 1, 0, 1, 0)
		wantPinsIn(t, []impl.Party{list[2], p, p}, 0, pin(8, 70), pin(8, 70), pin(9, 3))
	}
}

// TestSumsOfOtherStates has a State that is neither waiting nor offered: the
// party holds no seats and has no pin, but it counts and ties its seats.
func TestSumsOfOtherStates(t *testing.T) {
	for _, state := range append(extremes(), -2, -1, 0, 1, 3, 4, 1<<32+2, -1<<32+2) {
		list := cabinParties()
		for i := range list {
			list[i].State = state
		}
		wantSums(t, list, 0, 0, 4, 4)
		wantSums(t, list, 1, 0, 1, 5)
		wantSums(t, list, 2, 0, 3, 0)
		for cabin := -1; cabin <= 3; cabin++ {
			wantPinsIn(t, list, cabin)
		}
	}
}

// TestSumsOfOtherCabins has a Cabin and a From of a cabin that there is not,
// and parties whose From is their own Cabin.
func TestSumsOfOtherCabins(t *testing.T) {
	nums := append(extremes(), -2, -1, 0, 1, 3, 4, 5, 1<<32, -1<<32)
	for _, cabin := range nums {
		for _, from := range nums {
			p := impl.Party{Id: 70, Cabin: cabin, From: from, Size: 5, Turn: 30, State: 2, Until: 8}
			q := impl.Party{Id: 71, Cabin: cabin, From: from, Size: 3, Turn: 31, State: 1, Until: 8}
			if cabin == from {
				wantSums(t, []impl.Party{p, q}, cabin, 5, 8, 2)
			} else {
				wantSums(t, []impl.Party{p, q}, cabin, 5, 0, 2)
				wantSums(t, []impl.Party{p, q}, from, 0, 8, 0)
				wantPinsIn(t, []impl.Party{p, q}, from)
			}
			wantPinsIn(t, []impl.Party{p, q}, cabin, pin(8, 70))
			for _, other := range nums {
				wantFound(t, append(cabinParties(), p, q), other)
			}
		}
	}
}

// TestSumsOfInvalidParties has parties that are not PartyOk in any field: only
// the fields that the document names decide.
func TestSumsOfInvalidParties(t *testing.T) {
	var all []impl.Party
	for _, r := range []impl.Rules{cabinRules(), plainRules(), greatestRules()} {
		for _, now := range []int{0, 7, 1000000} {
			all = append(all, badParties(r, now)...)
		}
	}
	for i, p := range all {
		for _, cabin := range []int{-1, 0, 1, 2, 3, p.Cabin, p.From} {
			wantFound(t, []impl.Party{p}, cabin)
			wantFound(t, all[i/2:i/2+min(9, i)], cabin)
		}
	}
	for cabin := -2; cabin <= 5; cabin++ {
		wantFound(t, all, cabin)
	}
}

// TestSumsOfRepeatedParties has the same Id many times over: each counts.
func TestSumsOfRepeatedParties(t *testing.T) {
	for _, n := range []int{1, 2, 10, 11, 1000} {
		list := slices.Repeat(cabinParties(), n)
		wantSums(t, list, 0, 3*n, 4*n, 4*n)
		wantSums(t, list, 1, 8*n, n, 5*n)
		wantSums(t, list, 2, 0, 3*n, 0)
		wantPinsIn(t, list, 0, slices.Concat(slices.Repeat([]impl.Pin{pin(8, 8)}, n), slices.Repeat([]impl.Pin{pin(9, 3)}, n))...)
	}
	six := slices.Repeat([]impl.Party{{Id: 5, Cabin: 1, From: 0, Size: 6, State: 2, Until: 3}}, 20000)
	wantSums(t, six, 1, 120000, 0, 20000)
	wantSums(t, six, 0, 0, 120000, 0)
}

// TestSumsOfTwoLists is a part of P10: the sums of two lists laid together are
// the sums of theirs added up.
func TestSumsOfTwoLists(t *testing.T) {
	pool := slices.Concat(cabinParties(), badParties(cabinRules(), cabinTick))
	for seed := range 3000 {
		next := mixer(seed)
		var one, two []impl.Party
		for range next(12) {
			one = append(one, pool[next(len(pool))])
		}
		for range next(12) {
			two = append(two, pool[next(len(pool))])
		}
		for cabin := -2; cabin <= 4; cabin++ {
			wantSums(t, slices.Concat(one, two), cabin,
				impl.HeldIn(one, cabin)+impl.HeldIn(two, cabin), impl.TiedIn(one, cabin)+impl.TiedIn(two, cabin), impl.CountIn(one, cabin)+impl.CountIn(two, cabin))
			wantPinsIn(t, slices.Concat(one, two), cabin, sorted(slices.Concat(impl.PinsIn(one, cabin), impl.PinsIn(two, cabin)))...)
			wantFound(t, slices.Concat(two, one), cabin)
		}
	}
}

// offeredAt are parties of cabin 1 with these pins.
func offeredAt(pins ...impl.Pin) []impl.Party {
	var list []impl.Party
	for i, p := range pins {
		list = append(list, impl.Party{Id: p.Id, Cabin: 1, From: -1, Size: 1, Turn: i + 1, State: 2, Until: p.At})
	}
	return list
}

// TestPinsInOrder has the pins of the parties in each of their orders: of
// different Untils, of equal ones, and equal throughout.
func TestPinsInOrder(t *testing.T) {
	for _, want := range [][]impl.Pin{
		{pin(3, 9), pin(5, 2), pin(8, 7), pin(8, 8), pin(17, 1)},
		{pin(8, 2), pin(8, 3), pin(8, 500), pin(8, 998), pin(8, 999)},
		{pin(1, 4), pin(8, 2), pin(8, 2), pin(8, 3), pin(9, 2)},
		{pin(8, 2), pin(8, 2), pin(8, 2), pin(8, 2), pin(8, 2)},
		{pin(-9, 5), pin(-1, 7), pin(0, 5), pin(1, 5), pin(1, 6)},
		{pin(4, -7), pin(4, -1), pin(4, 0), pin(4, 1), pin(5, -7)},
		{pin(math.MinInt, math.MaxInt), pin(-1, math.MinInt), pin(0, 0), pin(lastAt+1, 1000), pin(math.MaxInt, math.MinInt)},
		{pin(math.MinInt, math.MinInt), pin(math.MinInt, math.MaxInt), pin(7, 7), pin(math.MaxInt, math.MinInt), pin(math.MaxInt, math.MaxInt)},
	} {
		for order := range 5 * 4 * 3 * 2 {
			var list []impl.Party
			left := offeredAt(want...)
			for n := len(left); n > 0; n-- {
				at := order % n
				order /= n
				list = append(list, left[at])
				left = slices.Delete(left, at, at+1)
			}
			wantPinsIn(t, list, 1, want...)
			wantPinsIn(t, slices.Concat(cabinParties()[:1], list, cabinParties()[2:3]), 1, want...)
			wantPinsIn(t, list, 0)
		}
	}
}

// TestPinsInDefinition has many more parties than a wheel has room for.
func TestPinsInDefinition(t *testing.T) {
	for seed := range 300 {
		next := mixer(seed)
		span := []int{2, 9, 100, 1000000}[next(4)]
		var list []impl.Party
		for range next(120) {
			list = append(list, impl.Party{Id: next(span) - span/4, Cabin: next(3) - 1, From: next(3) - 1, Size: next(8), State: next(4), Until: next(span) - span/4})
		}
		for cabin := -2; cabin <= 2; cabin++ {
			wantFound(t, list, cabin)
			wantFound(t, append(list, cabinParties()...), cabin)
		}
	}
}

func TestAgrees(t *testing.T) {
	r, list := cabinRules(), cabinParties()
	for cabin, c := range threeCabins() {
		wantAgrees(t, r, c, list, cabin, cabinTick, true)
		other := cabinParties()
		slices.Reverse(other)
		wantAgrees(t, r, c, other, cabin, cabinTick, true)
		for _, wrong := range append(extremes(), -1, 0, 1, 2, 3, 4) {
			if wrong != cabin {
				wantAgrees(t, r, c, list, wrong, cabinTick, false)
			}
		}
		wantAgrees(t, r, c, nil, cabin, cabinTick, false)
		wantAgrees(t, r, c, []impl.Party{}, cabin, cabinTick, false)
		for i := range list {
			left := slices.Delete(cabinParties(), i, i+1)
			wantAgrees(t, r, c, left, cabin, cabinTick, list[i].Cabin != cabin && list[i].From != cabin)
		}
	}
	// An empty row may be nil or not.
	wantAgrees(t, r, withRow(threeCabins()[2], []impl.Entry{}...), list, 2, cabinTick, true)
}

// TestAgreesOtherSeats divides the seats that the parties do not ask for into
// free and sold ones in every way, with any total.
func TestAgreesOtherSeats(t *testing.T) {
	for cabin, c := range threeCabins() {
		for total := 1; total <= 60; total++ {
			for free := range total + 1 {
				l := ledger(total, free, c.Seats.Held, total-free-c.Seats.Held, c.Seats.Tied)
				wantAgrees(t, cabinRules(), withLedger(c, l), cabinParties(), cabin, cabinTick, ledgerValid(l))
			}
		}
	}
}

// TestAgreesHeldAndTied has every other number of held and of tied seats.
func TestAgreesHeldAndTied(t *testing.T) {
	for cabin, c := range threeCabins() {
		for held := range 31 {
			for tied := range 31 {
				l := ledger(60, 30-held, held, 30, tied)
				wantAgrees(t, cabinRules(), withLedger(c, l), cabinParties(), cabin, cabinTick, held == c.Seats.Held && tied == c.Seats.Tied)
			}
		}
	}
}

// rowChanges are other valid rows.
func rowChanges(row []impl.Entry) [][]impl.Entry {
	var out [][]impl.Entry
	add := func(changed []impl.Entry) {
		if impl.QueueOk(changed) && !slices.Equal(changed, row) {
			out = append(out, changed)
		}
	}
	for at, e := range row {
		add(slices.Delete(slices.Clone(row), at, at+1))
		for _, f := range entryFields() {
			n := *f.of(&e)
			for _, n := range []int{n - 1, n + 1, f.least, f.most} {
				changed := slices.Clone(row)
				changed[at] = withEntryField(e, f, n)
				add(changed)
			}
		}
	}
	for _, e := range []impl.Entry{{Level: 0, Turn: 999, Id: 777, Size: 1}, {Level: 1, Turn: 999, Id: 777, Size: 1}, {Level: 4, Turn: 999, Id: 777, Size: 1}} {
		longer, _ := impl.QueuePut(row, e)
		add(longer)
	}
	return out
}

// pinChanges are the pins of other valid wheels: with one pin too few, at
// another tick, of another party, and too many.
func pinChanges(pins []impl.Pin) [][]impl.Pin {
	var out [][]impl.Pin
	add := func(changed []impl.Pin) {
		if wheelValid(wheel(changed...)) && !slices.Equal(sorted(changed), sorted(pins)) {
			out = append(out, changed)
		}
	}
	for at, p := range pins {
		add(slices.Delete(slices.Clone(pins), at, at+1))
		for _, q := range []impl.Pin{pin(p.At-1, p.Id), pin(p.At+1, p.Id), pin(p.At+9, p.Id), pin(p.At, p.Id+1), pin(p.At, 777)} {
			changed := slices.Clone(pins)
			changed[at] = q
			add(changed)
		}
	}
	for _, q := range []impl.Pin{pin(1, 777), pin(8, 777), pin(lastAt, 777)} {
		add(append(slices.Clone(pins), q))
	}
	return out
}

// seatChanges are other valid ledgers: with another number of held seats or of
// tied ones.
func seatChanges(l impl.Ledger) []impl.Ledger {
	var out []impl.Ledger
	for _, other := range []impl.Ledger{
		ledger(l.Total+1, l.Free, l.Held+1, l.Sold, l.Tied), ledger(l.Total, l.Free-1, l.Held+1, l.Sold, l.Tied), ledger(l.Total, l.Free, l.Held+1, l.Sold-1, l.Tied),
		ledger(l.Total-1, l.Free, l.Held-1, l.Sold, l.Tied), ledger(l.Total, l.Free+1, l.Held-1, l.Sold, l.Tied), ledger(l.Total, l.Free, l.Held-1, l.Sold+1, l.Tied),
		ledger(l.Total, l.Free, l.Held, l.Sold, l.Tied+1), ledger(l.Total, l.Free, l.Held, l.Sold, l.Tied-1), ledger(l.Total, l.Free, l.Held, l.Sold, l.Sold), ledger(l.Total, l.Free, l.Held, l.Sold, 0),
	} {
		if ledgerValid(other) && (other.Held != l.Held || other.Tied != l.Tied) {
			out = append(out, other)
		}
	}
	return out
}

// cabinChanges are other valid cabins, each with one part changed so that the
// same parties do not make it.
func cabinChanges(c impl.Cabin) []impl.Cabin {
	var out []impl.Cabin
	for _, l := range seatChanges(c.Seats) {
		out = append(out, withLedger(c, l))
	}
	for _, row := range rowChanges(c.Row) {
		out = append(out, withRow(c, row...))
	}
	for _, pins := range pinChanges(allPins(c.Wheel)) {
		out = append(out, withWheel(c, pins...))
	}
	return out
}

func wantDisagreement(t *testing.T, r impl.Rules, c impl.Cabin, list []impl.Party, cabin, now int) {
	t.Helper()
	for _, other := range cabinChanges(c) {
		wantCabin(t, other, true)
		wantAgrees(t, r, other, list, cabin, now, false)
	}
}

func TestAgreesChangedCabin(t *testing.T) {
	for cabin, c := range threeCabins() {
		wantDisagreement(t, cabinRules(), c, cabinParties(), cabin, cabinTick)
		if n := len(cabinChanges(c)); n < 8 {
			t.Errorf("only %d changes of cabin %d", n, cabin)
		}
		for _, other := range threeCabins() {
			for _, mixed := range []impl.Cabin{withLedger(c, other.Seats), withRow(c, other.Row...), withWheel(c, allPins(other.Wheel)...)} {
				wantAgrees(t, cabinRules(), mixed, cabinParties(), cabin, cabinTick, cabinEqual(mixed, c))
			}
		}
	}
}

// TestAgreesChangedRow has rows that are right but for one thing.
func TestAgreesChangedRow(t *testing.T) {
	c, r, list := threeCabins()[1], cabinRules(), cabinParties()
	four, six := c.Row[0], c.Row[1]
	for _, row := range [][]impl.Entry{
		nil, {four}, {six}, {six, four}, {four, four}, {four, six, six}, {four, six, {Level: 1, Turn: 6, Id: 77, Size: 1}},
		{four, {Level: 1, Turn: 6, Id: 6, Size: 1}}, {{Level: 1, Turn: 3, Id: 4, Size: 2}, six}, {{Level: 1, Turn: 5, Id: 4, Size: 2}, six},
		{four, {Level: 2, Turn: 5, Id: 6, Size: 1}}, {{Level: 0, Turn: 4, Id: 4, Size: 2}, six}, {four, {Level: 0, Turn: 5, Id: 6, Size: 1}},
		{four, {Level: 1, Turn: 5, Id: 7, Size: 1}}, {four, {Level: 1, Turn: 5, Id: 6, Size: 2}},
		{four, six, {Level: 1, Turn: 2, Id: 2, Size: 3}}, {{Level: 1, Turn: 2, Id: 2, Size: 3}, four, six},
	} {
		wantAgrees(t, r, withRow(c, row...), list, 1, cabinTick, false)
	}
	wantAgrees(t, r, withRow(c, four, six), list, 1, cabinTick, true)
}

// TestAgreesChangedWheel has wheels that are right but for one pin.
func TestAgreesChangedWheel(t *testing.T) {
	c, r, list := threeCabins()[1], cabinRules(), cabinParties()
	for _, pins := range [][]impl.Pin{
		nil, {pin(8, 7), pin(8, 9)}, {pin(8, 7), pin(10, 2)}, {pin(8, 9), pin(10, 2)}, {pin(8, 7), pin(8, 9), pin(10, 2), pin(9, 4)}, {pin(8, 7), pin(8, 9), pin(10, 2), pin(10, 99)},
		{pin(8, 7), pin(8, 9), pin(9, 2)}, {pin(8, 7), pin(8, 9), pin(11, 2)}, {pin(8, 7), pin(8, 9), pin(19, 2)}, {pin(8, 7), pin(17, 9), pin(10, 2)}, {pin(7, 7), pin(8, 9), pin(10, 2)},
		{pin(8, 6), pin(8, 9), pin(10, 2)}, {pin(8, 9), pin(8, 2), pin(10, 7)},
	} {
		wantAgrees(t, r, withWheel(c, pins...), list, 1, cabinTick, false)
	}
	wantAgrees(t, r, withWheel(c, pin(10, 2), pin(8, 9), pin(8, 7)), list, 1, cabinTick, true)
}

// TestAgreesTicks finds the ticks at which the levels are those of the rows and
// all parties that wait are valid. Nobody waits for the last cabin.
func TestAgreesTicks(t *testing.T) {
	cabins := threeCabins()
	for now := -3; now <= 40; now++ {
		wantAgrees(t, cabinRules(), cabins[0], cabinParties(), 0, now, now >= 7 && now <= 10)
		wantAgrees(t, cabinRules(), cabins[1], cabinParties(), 1, now, now == 7)
		wantAgrees(t, cabinRules(), cabins[2], cabinParties(), 2, now, true)
	}
	for _, now := range slices.Concat(wrongTicks(), extremes(), []int{1000000}) {
		wantAgrees(t, cabinRules(), cabins[0], cabinParties(), 0, now, false)
		wantAgrees(t, cabinRules(), cabins[1], cabinParties(), 1, now, false)
		wantAgrees(t, cabinRules(), cabins[2], cabinParties(), 2, now, true)
	}
	// Where the tick is none, nobody has an entry, and Agrees sets no condition of
	// its own.
	for _, now := range wrongTicks() {
		wantAgrees(t, cabinRules(), withRow(cabins[0]), cabinParties(), 0, now, true)
		wantAgrees(t, cabinRules(), withRow(cabins[1]), cabinParties(), 1, now, true)
	}
	wantAgrees(t, cabinRules(), withRow(cabins[0]), cabinParties(), 0, cabinTick, false)
}

// TestAgreesRules has rules by which levels differ or parties are not valid.
func TestAgreesRules(t *testing.T) {
	cabins, list := threeCabins(), cabinParties()
	for _, bad := range append(badRules(), impl.Rules{}) {
		wantAgrees(t, bad, cabins[0], list, 0, cabinTick, false)
		wantAgrees(t, bad, cabins[1], list, 1, cabinTick, false)
		wantAgrees(t, bad, cabins[2], list, 2, cabinTick, true)
		wantAgrees(t, bad, withRow(cabins[0]), list, 0, cabinTick, true)
	}
	for _, f := range ruleFields() {
		for n := -1; n <= 14; n++ {
			r := withField(cabinRules(), f, n)
			for cabin, c := range cabins {
				wantAgrees(t, r, c, list, cabin, cabinTick, agreed(r, c, list, cabin, cabinTick))
			}
			if !impl.RulesOk(r) {
				wantAgrees(t, r, cabins[0], list, 0, cabinTick, false)
			}
		}
	}
	wantAgrees(t, withSeats(cabinRules(), 20, 30), cabins[0], list, 0, cabinTick, false)
	wantAgrees(t, withSeats(cabinRules(), 1, 1, 1), cabins[0], list, 0, cabinTick, true)
}

// TestAgreesChangedParty changes one field of one party: the cabin agrees as
// before only where the field is in none of the conditions.
func TestAgreesChangedParty(t *testing.T) {
	r, cabins, broken := cabinRules(), threeCabins(), 0
	for i, p := range cabinParties() {
		for _, f := range allPartyFields(r, cabinTick) {
			for _, n := range append(extremes(), -1, 0, 1, 2, 3, 4, 5, 7, 8, 9, 10, 11, 999, 1000, 1000000, 1000001) {
				list := cabinParties()
				list[i] = withPartyField(p, f, n)
				for cabin, c := range cabins {
					want := agreed(r, c, list, cabin, cabinTick)
					wantAgrees(t, r, c, list, cabin, cabinTick, want)
					if !want {
						broken++
					}
				}
			}
		}
	}
	if broken < 500 {
		t.Errorf("only %d changes break the agreement", broken)
	}
	for _, c := range []struct {
		at, cabin int
		change    func(*impl.Party)
	}{
		{2, 0, func(p *impl.Party) { p.Size = 2 }}, {2, 1, func(p *impl.Party) { p.Size = 2 }}, {0, 0, func(p *impl.Party) { p.Size = 3 }}, {2, 0, func(p *impl.Party) { p.Size = 7 }}, {2, 0, func(p *impl.Party) { p.Size = 0 }},
		{2, 0, func(p *impl.Party) { p.State = 1 }}, {0, 0, func(p *impl.Party) { p.State = 2 }}, {2, 0, func(p *impl.Party) { p.State = 3 }}, {0, 0, func(p *impl.Party) { p.State = 0 }},
		{2, 0, func(p *impl.Party) { p.Cabin = 2 }}, {2, 2, func(p *impl.Party) { p.Cabin = 2 }}, {0, 0, func(p *impl.Party) { p.Cabin = -1 }}, {2, 1, func(p *impl.Party) { p.From = -1 }}, {0, 1, func(p *impl.Party) { p.From = 1 }},
		{2, 0, func(p *impl.Party) { p.Until = 10 }}, {2, 0, func(p *impl.Party) { p.Id = 33 }}, {0, 0, func(p *impl.Party) { p.Id = 33 }}, {0, 0, func(p *impl.Party) { p.Turn = 9 }}, {0, 0, func(p *impl.Party) { p.Tier = 1 }},
		{0, 0, func(p *impl.Party) { p.Since = 2 }}, {0, 0, func(p *impl.Party) { p.Asked = 3 }}, {0, 0, func(p *impl.Party) { p.Until = 10 }}, {0, 0, func(p *impl.Party) { p.From = 0 }},
	} {
		list := cabinParties()
		c.change(&list[c.at])
		wantAgrees(t, r, cabins[c.cabin], list, c.cabin, cabinTick, false)
	}
}

// TestAgreesNotInAnyCondition changes what neither the row, the pins nor the
// sums tell.
func TestAgreesNotInAnyCondition(t *testing.T) {
	r, cabins := cabinRules(), threeCabins()
	for _, c := range []struct {
		at     int
		change func(*impl.Party)
	}{
		{2, func(p *impl.Party) { p.Tier = 2 }}, {2, func(p *impl.Party) { p.Since = 0 }}, {2, func(p *impl.Party) { p.Turn = 77 }}, {2, func(p *impl.Party) { p.Asked = 1 }},
		{0, func(p *impl.Party) { p.Until = 9 }}, {0, func(p *impl.Party) { p.Asked = 2 }}, {0, func(p *impl.Party) { p.Since = 4 }},
		// The party of an offer need not be PartyOk.
		{2, func(p *impl.Party) { p.Tier = -1 }}, {2, func(p *impl.Party) { p.Since = 8 }}, {2, func(p *impl.Party) { p.Turn = 0 }}, {2, func(p *impl.Party) { p.Asked = math.MaxInt }},
	} {
		list := cabinParties()
		c.change(&list[c.at])
		for cabin := range cabins {
			wantAgrees(t, r, cabins[cabin], list, cabin, cabinTick, true)
		}
	}
}

// TestAgreesInvalidParties adds parties that are not PartyOk to the list: one
// that waits has no entry but ties its seats, one that is offered has a pin.
func TestAgreesInvalidParties(t *testing.T) {
	r := cabinRules()
	bad := append(badParties(r, cabinTick),
		impl.Party{Id: 70, Cabin: 0, From: 0, Size: 2, Turn: 70, State: 2, Until: 8}, impl.Party{Id: 70, Cabin: 0, From: 0, Size: 2, Turn: 70, State: 1},
		impl.Party{Id: 70, Cabin: -1, From: 0, Size: 2, Turn: 70, State: 2, Until: 8}, impl.Party{Id: 70, Cabin: 3, From: 3, Size: 6, Turn: 70, State: 1},
		impl.Party{Id: 70, Cabin: 0, From: 1, Size: 5, Turn: 70, State: 2, Until: 8}, impl.Party{Id: 70, Cabin: 0, From: 1, Size: 6, Turn: 70, State: 1}, impl.Party{Id: 70, Cabin: 0, From: 1, Size: 7, Turn: 70, State: 2, Until: 8},
		impl.Party{Id: 70, Cabin: 0, From: 1, Size: 2, Turn: 70, State: 2, Until: 11}, impl.Party{Id: 70, Cabin: 0, From: 1, Size: 2, Turn: 70, State: 2, Until: lastAt}, impl.Party{Id: 70, Cabin: 0, From: 1, Size: 2, Turn: 70, State: 2, Until: lastAt + 1})
	valid := 0
	for _, p := range bad {
		for _, list := range [][]impl.Party{{p}, append(cabinParties(), p), slices.Insert(cabinParties(), 0, p)} {
			for cabin := -1; cabin <= 3; cabin++ {
				c := cabinMade(r, list, cabin, cabinTick, 3, 2)
				wantAgrees(t, r, c, list, cabin, cabinTick, cabinValid(c))
				if cabinValid(c) {
					valid++
					wantDisagreement(t, r, c, list, cabin, cabinTick)
				}
			}
		}
	}
	if valid < 200 {
		t.Errorf("only %d cabins are valid", valid)
	}
}

// TestAgreesNotCabinOk has cabins of which one part is not valid, though it is
// what the parties make.
func TestAgreesNotCabinOk(t *testing.T) {
	r := cabinRules()
	wait := func(id, turn int) impl.Party {
		return impl.Party{Id: id, Cabin: 1, From: -1, Size: 1, Turn: turn, State: 1}
	}
	var waits []impl.Party
	for i := range 12 {
		waits = append(waits, wait(i+1, i+1))
	}
	for _, c := range []struct {
		list []impl.Party
		want bool
	}{
		{waits[:9], true}, {waits[:10], true}, {waits[:11], false}, {waits, false},
		{offeredAt(spreadPins(9)...), true}, {offeredAt(spreadPins(10)...), true}, {offeredAt(spreadPins(11)...), false}, {offeredAt(turnPins(10)...), true}, {offeredAt(turnPins(12)...), false},
		{[]impl.Party{wait(1, 1), wait(2, 2)}, true}, {[]impl.Party{wait(1, 1), wait(2, 1)}, false}, {[]impl.Party{wait(1, 1), wait(1, 2)}, false}, {[]impl.Party{wait(1, 1), wait(1, 1)}, false},
		{offeredAt(pin(8, 1), pin(9, 2)), true}, {offeredAt(pin(8, 1), pin(9, 1)), false}, {offeredAt(pin(8, 1), pin(8, 1)), false},
		{offeredAt(pin(1, 1)), true}, {offeredAt(pin(0, 1)), false}, {offeredAt(pin(-1, 1)), false}, {offeredAt(pin(lastAt, 1)), true}, {offeredAt(pin(lastAt+1, 1)), false}, {offeredAt(pin(math.MaxInt, 1)), false}, {offeredAt(pin(math.MinInt, 1)), false},
		{offeredAt(pin(8, 999)), true}, {offeredAt(pin(8, 1000)), false}, {offeredAt(pin(8, 0)), false}, {offeredAt(pin(8, -1)), false},
		// The Ids of a row and of a wheel are not compared.
		{append(offeredAt(pin(8, 3)), wait(3, 5)), true},
	} {
		wantAgrees(t, r, cabinMade(r, c.list, 1, cabinTick, 3, 2), c.list, 1, cabinTick, c.want)
	}
	for cabin, c := range threeCabins() {
		l := c.Seats
		for _, bad := range []impl.Ledger{
			ledger(l.Total, l.Free+1, l.Held, l.Sold, l.Tied), ledger(l.Total+1, l.Free, l.Held, l.Sold, l.Tied), ledger(l.Total, l.Free, l.Held, l.Sold-1, l.Tied), ledger(l.Total, -1, l.Held, l.Total-l.Held+1, l.Tied),
			ledger(61, 61-l.Held-l.Sold, l.Held, l.Sold, l.Tied), ledger(l.Total, l.Total-l.Held, l.Held, 0, l.Tied), ledger(0, 0, l.Held, -l.Held, l.Tied),
		} {
			wantAgrees(t, r, withLedger(c, bad), cabinParties(), cabin, cabinTick, false)
		}
	}
}

// TestAgreesBadWheel has wheels that are not WheelOk, also where no party has an
// offer.
func TestAgreesBadWheel(t *testing.T) {
	for cabin, c := range threeCabins() {
		spoke := c.Wheel.Spoke
		for _, w := range slices.Concat(badWheels(), []impl.Wheel{lists(spoke[:8]...), lists(append(slices.Clone(spoke), nil)...), lists(append(slices.Clone(spoke[1:]), spoke[0])...), lists(allPins(c.Wheel)), {}}) {
			if slices.Equal(allPins(w), allPins(c.Wheel)) && wheelValid(w) {
				continue // the last cabin has no pins to be in the wrong list
			}
			c.Wheel = w
			wantAgrees(t, cabinRules(), c, cabinParties(), cabin, cabinTick, false)
		}
	}
	swapped := threeCabins()[1]
	swapped.Wheel.Spoke[8] = []impl.Pin{pin(8, 9), pin(8, 7)}
	wantAgrees(t, cabinRules(), swapped, cabinParties(), 1, cabinTick, false)
	wantAgrees(t, cabinRules(), impl.Cabin{}, nil, 0, 0, false)
	wantAgrees(t, cabinRules(), impl.Cabin{}, cabinParties(), 0, cabinTick, false)
	wantAgrees(t, impl.Rules{}, impl.Cabin{}, nil, -1, -1, false)
}

func randomRules(next func(int) int) impl.Rules {
	return impl.Rules{
		Seats: slices.Repeat([]int{60}, 1+next(4)), Tiers: 1 + next(5), Room: 10, Size: 1 + next(6),
		Period: 1 + next(12), Window: 1 + next(8), Rest: next(9), Tries: 1 + next(4), Crew: 1 + next(3),
	}
}

// randomParties are up to eight valid parties; their Ids and Turns are distinct.
func randomParties(next func(int) int, r impl.Rules, now int) []impl.Party {
	var list []impl.Party
	for i := range next(9) {
		p := impl.Party{Id: 1 + next(110)*9 + i, Cabin: next(len(r.Seats)), From: next(len(r.Seats)+1) - 1, Size: 1 + next(r.Size), Tier: next(r.Tiers), Since: now - next(min(now, 40)+1), Turn: 1 + next(9000)*9 + i, State: 1 + next(2), Asked: next(r.Tries)}
		if p.From == p.Cabin {
			p.From = -1
		}
		p.Until = 1 + next(now+r.Window)
		if p.State == 1 {
			p.Until = next(now + r.Rest + 1)
		}
		list = append(list, p)
	}
	return list
}

// TestCabinsAgreeWithTheirParties is P10: the cabin that any valid parties make
// agrees with them, and with a change of one part it does not.
func TestCabinsAgreeWithTheirParties(t *testing.T) {
	rows, wheels := 0, 0
	for seed := range 1500 {
		next := mixer(seed)
		r, now := randomRules(next), []int{0, 1, 7, 30, 1000000}[next(5)]
		list := randomParties(next, r, now)
		for _, p := range list {
			wantParty(t, r, p, now, true)
		}
		for cabin := range r.Seats {
			c := cabinMade(r, list, cabin, now, next(6), 1+next(5))
			w, ok := impl.WheelOf(impl.PinsIn(list, cabin))
			if c.Wheel = w; !ok {
				t.Fatalf("the pins of %+v make no wheel", list)
			}
			wantFound(t, list, cabin)
			wantCabin(t, c, true)
			wantAgrees(t, r, c, list, cabin, now, true)
			wantDisagreement(t, r, c, list, cabin, now)
			rows += min(len(c.Row), 2) / 2
			wheels += min(len(allPins(w)), 2) / 2
			for later := now - 2; later <= now+14; later++ {
				wantAgrees(t, r, c, list, cabin, later, agreed(r, c, list, cabin, later))
			}
			other := randomRules(next)
			wantAgrees(t, other, c, list, cabin, now, agreed(other, c, list, cabin, now))
		}
	}
	if rows < 500 || wheels < 500 {
		t.Errorf("only %d rows and %d wheels have two parties", rows, wheels)
	}
}

// TestCabinsAgreeWithNoOtherParties is the rest of P10: with one party changed,
// left out or added, a cabin agrees only where that party is not in it.
func TestCabinsAgreeWithNoOtherParties(t *testing.T) {
	for seed := range 600 {
		next := mixer(seed)
		r := randomRules(next)
		list := randomParties(next, r, 30)
		for cabin := range r.Seats {
			c := cabinMade(r, list, cabin, 30, next(6), 1+next(5))
			for i, p := range list {
				near := p.Cabin == cabin || p.From == cabin
				wantAgrees(t, r, c, slices.Delete(slices.Clone(list), i, i+1), cabin, 30, !near)
				wantAgrees(t, r, c, append(slices.Clone(list), p), cabin, 30, !near)
				for _, f := range allPartyFields(r, 30) {
					for _, n := range []int{*f.of(&p) - 1, *f.of(&p) + 1, -1, 0, 1, 2} {
						other := slices.Clone(list)
						other[i] = withPartyField(p, f, n)
						wantAgrees(t, r, c, other, cabin, 30, agreed(r, c, other, cabin, 30))
					}
				}
			}
		}
	}
}

func TestSameCabin(t *testing.T) {
	cabins := threeCabins()
	for i, a := range cabins {
		for j, b := range threeCabins() {
			wantSameCabin(t, a, b, i == j)
		}
		for _, b := range cabinChanges(a) {
			wantSameCabin(t, a, b, false)
			wantSameCabin(t, b, b, true)
		}
	}
	for total := 1; total <= 60; total++ {
		a, _ := impl.CabinNew(total)
		for other := 1; other <= 60; other++ {
			b, _ := impl.CabinNew(other)
			wantSameCabin(t, a, b, total == other)
		}
	}
}

// TestSameCabinLedgers differ in one count, which takes another or the total
// with it, or in Tied alone.
func TestSameCabinLedgers(t *testing.T) {
	all := someLedgers()
	for i, l := range all {
		for _, k := range []int{i, (i + 1) % len(all), (i * 7) % len(all), (i * 31) % len(all)} {
			wantSameCabin(t, withLedger(threeCabins()[1], l), withLedger(threeCabins()[1], all[k]), i == k || l == all[k])
		}
	}
	c := withLedger(threeCabins()[0], ledger(20, 5, 3, 12, 4))
	for _, l := range []impl.Ledger{
		ledger(21, 6, 3, 12, 4), ledger(21, 5, 4, 12, 4), ledger(21, 5, 3, 13, 4), ledger(19, 4, 3, 12, 4), ledger(19, 5, 2, 12, 4), ledger(19, 5, 3, 11, 4),
		ledger(20, 6, 2, 12, 4), ledger(20, 4, 4, 12, 4), ledger(20, 6, 3, 11, 4), ledger(20, 4, 3, 13, 4), ledger(20, 5, 2, 13, 4), ledger(20, 5, 4, 11, 4),
		ledger(20, 5, 3, 12, 3), ledger(20, 5, 3, 12, 5), ledger(20, 5, 3, 12, 0),
	} {
		wantSameCabin(t, c, withLedger(c, l), false)
	}
}

func TestSameCabinRows(t *testing.T) {
	c := threeCabins()[1]
	for _, row := range goodRows() {
		for _, other := range goodRows() {
			wantSameCabin(t, withRow(c, row...), withRow(c, other...), slices.Equal(row, other))
		}
		for _, other := range rowChanges(row) {
			wantSameCabin(t, withRow(c, row...), withRow(c, other...), false)
		}
		wantSameCabin(t, withRow(c, row...), withRow(c, slices.Clone(row)...), true)
	}
	for _, empty := range [][]impl.Entry{nil, {}, make([]impl.Entry, 0, 5)} {
		wantSameCabin(t, withRow(c), withRow(c, empty...), true)
		wantSameCabin(t, c, withRow(c, empty...), false)
	}
}

// TestSameCabinWheels has wheels with the same pins, whose empty lists are nil
// or not.
func TestSameCabinWheels(t *testing.T) {
	good := goodWheels()
	for i, w := range good {
		c := impl.Cabin{Seats: ledger(8, 3, 2, 3, 1), Row: threeEntries(), Wheel: w}
		for _, other := range good[i:] {
			d := c
			d.Wheel = cloned(other)
			wantSameCabin(t, c, d, wheelEqual(w, other))
		}
		for _, pins := range pinChanges(allPins(w)) {
			wantSameCabin(t, c, withWheel(c, pins...), false)
		}
		empty := c
		empty.Wheel = cloned(w)
		for at := range empty.Wheel.Spoke {
			empty.Wheel.Spoke[at] = append([]impl.Pin{}, w.Spoke[at]...)
		}
		wantSameCabin(t, c, empty, true)
		made, _ := impl.WheelOf(backward(allPins(w)))
		c.Wheel = made
		wantSameCabin(t, c, empty, true)
	}
}

// TestSameCabinInvalid has cabins that are not CabinOk: they are the same as no
// other, not even as themselves.
func TestSameCabinInvalid(t *testing.T) {
	good := threeCabins()[0]
	var bad []impl.Cabin
	for _, l := range badLedgers() {
		bad = append(bad, withLedger(good, l))
	}
	for _, row := range badRows() {
		bad = append(bad, withRow(good, row...))
	}
	for _, w := range badWheels() {
		c := good
		c.Wheel = w
		bad = append(bad, c)
	}
	bad = append(bad, impl.Cabin{}, impl.Cabin{Seats: good.Seats}, impl.Cabin{Row: good.Row}, impl.Cabin{Wheel: good.Wheel}, impl.Cabin{Seats: good.Seats, Row: good.Row})
	for i, c := range bad {
		wantSameCabin(t, c, c, false)
		wantSameCabin(t, c, good, false)
		wantSameCabin(t, c, bad[(i+1)%len(bad)], false)
	}
}

// roomyCabin is a copy of c with unused capacity in its row and in its wheel.
func roomyCabin(c impl.Cabin) impl.Cabin {
	c.Row, _ = roomyEntries(c.Row)
	c.Wheel = roomyWheel(c.Wheel)
	return c
}

// roomyParties has parties behind the list, in its unused capacity.
func roomyParties(list []impl.Party) ([]impl.Party, []impl.Party) {
	all := slices.Concat(list, cabinParties(), []impl.Party{{Id: 90, Cabin: 2, From: 0, Size: 6, Turn: 90, State: 2, Until: 9}, {}})
	return all[:len(list)], all
}

// keptCabins are those that the tests of the memory use, valid and not.
func keptCabins() []impl.Cabin {
	list := append(threeCabins(), impl.Cabin{}, withLedger(threeCabins()[1], impl.Ledger{}), withRow(threeCabins()[1], threeEntries()...), withWheel(threeCabins()[0], fivePins()...))
	fresh, _ := impl.CabinNew(12)
	return append(list, fresh, withRow(fresh, badRows()[4]...), withWheel(fresh, spreadPins(11)...))
}

// TestCabinArgumentsAreKept covers the unused capacity of every slice.
func TestCabinArgumentsAreKept(t *testing.T) {
	for _, parties := range [][]impl.Party{nil, cabinParties(), cabinParties()[:4], offeredAt(spreadPins(12)...), badParties(cabinRules(), cabinTick)} {
		list, all := roomyParties(parties)
		seats, allSeats := roomyNums(cabinRules().Seats)
		room := withSeats(cabinRules(), seats...)
		was, wasSeats := slices.Clone(all), slices.Clone(allSeats)
		for cabin := -1; cabin <= 3; cabin++ {
			wantSums(t, list, cabin, heldSum(parties, cabin), tiedSum(parties, cabin), countSum(parties, cabin))
			wantPinsIn(t, list, cabin, pinsFound(parties, cabin)...)
			for _, c := range append(keptCabins(), cabinMade(cabinRules(), parties, cabin, cabinTick, 2, 2)) {
				other := roomyCabin(c)
				row, pins := slices.Clone(other.Row[:cap(other.Row)]), memory(other.Wheel)
				wantAgrees(t, room, other, list, cabin, cabinTick, agreed(cabinRules(), c, parties, cabin, cabinTick))
				wantCabin(t, other, cabinValid(c))
				wantSameCabin(t, other, c, cabinValid(c))
				if !slices.Equal(other.Row[:cap(other.Row)], row) || !memoryEqual(memory(other.Wheel), pins) {
					t.Errorf("the cabin %+v became %+v", c, other)
				}
			}
		}
		if !slices.Equal(all, was) || !slices.Equal(allSeats, wasSeats) {
			t.Errorf("the parties %+v became %+v", was, all)
		}
	}
}

// TestCabinResultsShareNoMemory spoils each result: neither the arguments nor
// the other results change.
func TestCabinResultsShareNoMemory(t *testing.T) {
	for _, parties := range [][]impl.Party{cabinParties(), offeredAt(spreadPins(12)...), badParties(cabinRules(), cabinTick)} {
		list, all := roomyParties(parties)
		was := slices.Clone(all)
		for cabin := -1; cabin <= 3; cabin++ {
			one, two := impl.PinsIn(list, cabin), impl.PinsIn(list, cabin)
			spoilPins(one)
			if !slices.Equal(two, pinsFound(parties, cabin)) || !slices.Equal(all, was) {
				t.Errorf("PinsIn(%+v, %d) shares memory, now %v", was, cabin, two)
			}
		}
	}
	one, _ := impl.CabinNew(12)
	two, _ := impl.CabinNew(12)
	for at := range one.Wheel.Spoke {
		one.Wheel.Spoke[at] = append(one.Wheel.Spoke[at], pin(at, 1))
		for behind := at + 1; behind < len(one.Wheel.Spoke); behind++ {
			if len(one.Wheel.Spoke[behind]) != 0 {
				t.Errorf("the lists %d and %d of a new cabin share memory", at, behind)
			}
		}
	}
	spoilWheel(one.Wheel)
	if want := (impl.Cabin{Seats: ledger(12, 0, 0, 12, 0), Wheel: noPins()}); !cabinEqual(two, want) {
		t.Errorf("a new cabin became %+v", two)
	}
	three, _ := impl.CabinNew(12)
	wantSameCabin(t, two, three, true)
}
