package tests

import (
	"math"
	"slices"
	"testing"

	"loop.example/g00494/impl"
)

// entryField is one number of an entry, with the limits that QueueOk sets.
type entryField struct {
	name  string
	least int
	most  int
	of    func(*impl.Entry) *int
}

func entryFields() []entryField {
	return []entryField{
		{"Level", 0, 4, func(e *impl.Entry) *int { return &e.Level }},
		{"Turn", 1, 1000000, func(e *impl.Entry) *int { return &e.Turn }},
		{"Id", 1, 999, func(e *impl.Entry) *int { return &e.Id }},
		{"Size", 1, 6, func(e *impl.Entry) *int { return &e.Size }},
	}
}

func withEntryField(e impl.Entry, f entryField, n int) impl.Entry {
	*f.of(&e) = n
	return e
}

func leastEntry() impl.Entry { return impl.Entry{Level: 0, Turn: 1, Id: 1, Size: 1} }

func greatestEntry() impl.Entry { return impl.Entry{Level: 4, Turn: 1000000, Id: 999, Size: 6} }

func middleEntry() impl.Entry { return impl.Entry{Level: 2, Turn: 500, Id: 50, Size: 3} }

// badEntries differ from a valid entry in one field each.
func badEntries() []impl.Entry {
	list := []impl.Entry{{}, {Level: -1}}
	for _, e := range []impl.Entry{leastEntry(), middleEntry(), greatestEntry()} {
		for _, f := range entryFields() {
			n := *f.of(&e)
			for _, n := range append(extremes(), f.least-1, f.most+1, -n-1, 1<<32+n, -1<<32+n) {
				list = append(list, withEntryField(e, f, n))
			}
		}
	}
	return list
}

// threeEntries leave room in front, between and behind; their Ids and Sizes are
// not in their order.
func threeEntries() []impl.Entry {
	return []impl.Entry{{Level: 1, Turn: 20, Id: 8, Size: 5}, {Level: 1, Turn: 30, Id: 9, Size: 2}, {Level: 3, Turn: 10, Id: 4, Size: 3}}
}

// longRow has n entries in their order, three to a level; their Ids fall, and
// their Turns start again in between.
func longRow(n int) []impl.Entry {
	var list []impl.Entry
	for i := range n {
		list = append(list, impl.Entry{Level: i / 3, Turn: 100 + 7*i%40, Id: 500 - 11*i, Size: i%6 + 1})
	}
	return list
}

// goodRows are the lists that are QueueOk.
func goodRows() [][]impl.Entry {
	rows := [][]impl.Entry{nil, {}, {leastEntry()}, {middleEntry()}, {greatestEntry()}, {leastEntry(), middleEntry(), greatestEntry()}, threeEntries()}
	for n := 1; n <= 10; n++ {
		rows = append(rows, longRow(n))
	}
	return rows
}

// badRows are the lists that are not QueueOk, each for one reason.
func badRows() [][]impl.Entry {
	three := threeEntries()
	rows := [][]impl.Entry{
		longRow(11), longRow(12), longRow(15), slices.Repeat([]impl.Entry{leastEntry()}, 300),
		{three[1], three[0], three[2]}, {three[0], three[2], three[1]}, {three[2], three[0], three[1]}, {three[2], three[1], three[0]},
		{three[0], three[0]}, {three[0], three[0], three[2]}, {three[0], three[1], three[2], three[2]},
		{three[0], three[1], {Level: 1, Turn: 30, Id: 7, Size: 2}, three[2]},
		{{Level: 1, Turn: 20, Id: 7, Size: 2}, three[0], three[1], three[2]},
		{three[0], three[1], {Level: 2, Turn: 30, Id: 8, Size: 2}, three[2]},
		{three[0], three[1], three[2], {Level: 3, Turn: 11, Id: 8, Size: 5}},
		{three[0], three[1], three[2], {Level: 3, Turn: 11, Id: 4, Size: 3}},
		{three[0], {Level: 1, Turn: 21, Id: 8, Size: 5}, three[1], three[2]},
	}
	for _, e := range badEntries() {
		rows = append(rows, []impl.Entry{e})
	}
	for at := range three {
		for _, f := range entryFields() {
			for _, n := range append(extremes(), f.least-1, f.most+1) {
				row := threeEntries()
				row[at] = withEntryField(row[at], f, n)
				rows = append(rows, row)
			}
		}
	}
	return rows
}

// entryAhead is the order of the document, written out.
func entryAhead(a, b impl.Entry) bool {
	if a.Level == b.Level {
		return a.Turn < b.Turn
	}
	return a.Level < b.Level
}

func wantQueue(t *testing.T, list []impl.Entry, want bool) {
	t.Helper()
	if got := impl.QueueOk(list); got != want {
		t.Errorf("QueueOk(%+v) = %v, want %v", list, got, want)
	}
}

func wantEntry(t *testing.T, r impl.Rules, p impl.Party, now int, want impl.Entry) {
	t.Helper()
	if got, ok := impl.EntryOf(r, p, now); !ok || got != want {
		t.Errorf("EntryOf(%v, %+v, %d) = %+v, %v, want %+v, true", r, p, now, got, ok, want)
	}
}

func wantNoEntry(t *testing.T, r impl.Rules, p impl.Party, now int) {
	t.Helper()
	if got, ok := impl.EntryOf(r, p, now); ok || got != (impl.Entry{}) {
		t.Errorf("EntryOf(%v, %+v, %d) = %+v, %v, want the zero Entry and false", r, p, now, got, ok)
	}
}

func wantPut(t *testing.T, list []impl.Entry, e impl.Entry, want []impl.Entry) {
	t.Helper()
	if got, ok := impl.QueuePut(list, e); !ok || !slices.Equal(got, want) {
		t.Errorf("QueuePut(%+v, %+v) = %+v, %v, want %+v, true", list, e, got, ok, want)
	}
}

func wantNotPut(t *testing.T, list []impl.Entry, e impl.Entry) {
	t.Helper()
	if got, ok := impl.QueuePut(list, e); ok || !slices.Equal(got, list) {
		t.Errorf("QueuePut(%+v, %+v) = %+v, %v, want the list and false", list, e, got, ok)
	}
}

// wantAt is the result of QueueAt and, with it, of QueueCut.
func wantAt(t *testing.T, list []impl.Entry, id, want int) {
	t.Helper()
	if got := impl.QueueAt(list, id); got != want {
		t.Errorf("QueueAt(%+v, %d) = %d, want %d", list, id, got, want)
	}
	var left []impl.Entry
	for at, e := range list {
		if at != want {
			left = append(left, e)
		}
	}
	if got, ok := impl.QueueCut(list, id); ok != (want >= 0) || !slices.Equal(got, left) {
		t.Errorf("QueueCut(%+v, %d) = %+v, %v, want %+v, %v", list, id, got, ok, left, want >= 0)
	}
}

func wantFit(t *testing.T, list []impl.Entry, free int, skip []int, want int) {
	t.Helper()
	if got := impl.FirstFit(list, free, skip); got != want {
		t.Errorf("FirstFit(%+v, %d, %v) = %d, want %d", list, free, skip, got, want)
	}
}

func wantMade(t *testing.T, r impl.Rules, list []impl.Party, cabin, now int, want []impl.Entry) {
	t.Helper()
	if got := impl.QueueOf(r, list, cabin, now); !slices.Equal(got, want) {
		t.Errorf("QueueOf(%v, %+v, %d, %d) = %+v, want %+v", r, list, cabin, now, got, want)
	}
}

func TestEntryOf(t *testing.T) {
	r := plainRules()
	p := impl.Party{Id: 12, Cabin: 1, From: 0, Size: 3, Tier: 2, Since: 4, Turn: 77, State: 1, Until: 5, Asked: 1}
	for _, c := range []struct{ now, level int }{{4, 2}, {8, 2}, {9, 1}, {13, 1}, {14, 0}, {15, 0}, {1000000, 0}} {
		wantEntry(t, r, p, c.now, impl.Entry{Level: c.level, Turn: 77, Id: 12, Size: 3})
	}
	wantNoEntry(t, r, p, 3)
	wantNoEntry(t, r, p, 1000001)
	// A party that rests waits all the same.
	p.Until = 6
	wantEntry(t, r, p, 4, impl.Entry{Level: 2, Turn: 77, Id: 12, Size: 3})
	p.Until = 7
	wantNoEntry(t, r, p, 4)
	p.State, p.Until = 2, 6
	wantNoEntry(t, r, p, 4)
	p.State = 0
	wantNoEntry(t, r, p, 4)
}

func TestEntryOfEdges(t *testing.T) {
	for _, r := range partyRules() {
		for _, now := range someTicks() {
			for _, p := range []impl.Party{waiter(), greatestParty(r, waiter(), now)} {
				wantEntry(t, r, p, now, impl.Entry{Level: levelAfter(r, p.Tier, now-p.Since), Turn: p.Turn, Id: p.Id, Size: p.Size})
				for _, f := range partyFields(r, now) {
					for _, n := range []int{f.least, f.most} {
						q := withPartyField(p, f, n)
						q.From = -1
						wantEntry(t, r, q, now, impl.Entry{Level: levelAfter(r, q.Tier, now-q.Since), Turn: q.Turn, Id: q.Id, Size: q.Size})
					}
				}
			}
			for _, p := range []impl.Party{holder(), greatestParty(r, holder(), now)} {
				wantNoEntry(t, r, p, now)
			}
			for _, p := range badParties(r, now) {
				wantNoEntry(t, r, p, now)
			}
		}
		for _, now := range wrongTicks() {
			for _, p := range append(baseParties(r, 0), baseParties(r, 1000000)...) {
				wantNoEntry(t, r, p, now)
				p.Since, p.Until = now, now
				wantNoEntry(t, r, p, now)
			}
		}
	}
	for _, r := range badRules() {
		for _, now := range []int{0, 7, 1000000} {
			wantNoEntry(t, r, waiter(), now)
			wantNoEntry(t, r, holder(), now)
		}
	}
}

// TestEntryOfTiers visits every level that a party may have.
func TestEntryOfTiers(t *testing.T) {
	for _, r := range periodRules() {
		for tier := range r.Tiers {
			for waited := range 62 {
				p := waiter()
				p.Tier, p.Since = tier, 9
				wantEntry(t, r, p, 9+waited, impl.Entry{Level: levelAfter(r, tier, waited), Turn: 1, Id: 1, Size: 1})
			}
		}
	}
}

func TestEntryLess(t *testing.T) {
	base := middleEntry()
	for _, c := range []struct {
		level, turn int
		want        bool
	}{
		{1, 499, true}, {1, 500, true}, {1, 501, true},
		{2, 499, true}, {2, 500, false}, {2, 501, false},
		{3, 499, false}, {3, 500, false}, {3, 501, false},
	} {
		for _, rest := range [][2]int{{50, 3}, {1, 1}, {999, 6}, {math.MinInt, math.MinInt}, {math.MaxInt, math.MaxInt}} {
			e := impl.Entry{Level: c.level, Turn: c.turn, Id: rest[0], Size: rest[1]}
			if got := impl.EntryLess(e, base); got != c.want {
				t.Errorf("EntryLess(%+v, %+v) = %v, want %v", e, base, got, c.want)
			}
		}
	}
}

func TestEntryLessExtremes(t *testing.T) {
	nums := append(extremes(), -1, 0, 1, 2, 1<<31, 1<<32, -1<<32)
	for _, level := range nums {
		for _, turn := range nums {
			a := impl.Entry{Level: level, Turn: turn, Id: 3, Size: 4}
			for _, other := range nums {
				for _, n := range nums {
					b := impl.Entry{Level: other, Turn: n, Id: 2, Size: 5}
					if got := impl.EntryLess(a, b); got != entryAhead(a, b) {
						t.Errorf("EntryLess(%+v, %+v) = %v", a, b, got)
					}
				}
			}
		}
	}
}

// TestEntryLessIsBefore has the same order for parties and for their entries.
func TestEntryLessIsBefore(t *testing.T) {
	r := plainRules()
	var list []impl.Party
	for tier := range 3 {
		for since := range 4 {
			for turn := 1; turn <= 3; turn++ {
				p := waiter()
				p.Tier, p.Since, p.Turn = tier, 2*since, turn
				list = append(list, p)
			}
		}
	}
	for now := 6; now <= 20; now++ {
		for _, p := range list {
			for _, q := range list {
				a, _ := impl.EntryOf(r, p, now)
				b, _ := impl.EntryOf(r, q, now)
				if impl.EntryLess(a, b) != impl.Before(r, p, q, now) {
					t.Errorf("EntryLess(%+v, %+v) differs from Before at %d", a, b, now)
				}
			}
		}
	}
}

func TestQueueOk(t *testing.T) {
	for _, row := range goodRows() {
		wantQueue(t, row, true)
	}
	for _, row := range badRows() {
		wantQueue(t, row, false)
	}
}

func TestQueueOkFields(t *testing.T) {
	for _, e := range []impl.Entry{leastEntry(), middleEntry(), greatestEntry()} {
		for _, f := range entryFields() {
			for _, n := range []int{f.least, f.most, (f.least + f.most) / 2} {
				wantQueue(t, []impl.Entry{withEntryField(e, f, n)}, true)
			}
			for _, n := range []int{f.least - 1, f.most + 1} {
				wantQueue(t, []impl.Entry{withEntryField(e, f, n)}, false)
			}
		}
	}
}

// TestQueueOkRoom breaks a list of each length in one place, up to the last.
func TestQueueOkRoom(t *testing.T) {
	for n := 0; n <= 14; n++ {
		wantQueue(t, longRow(n), n <= 10)
	}
	for n := 2; n <= 10; n++ {
		for at := 1; at < n; at++ {
			row := longRow(n)
			row[at-1], row[at] = row[at], row[at-1]
			wantQueue(t, row, false)
			for before := range at {
				row = longRow(n)
				row[at].Id = row[before].Id
				wantQueue(t, row, false)
				row = longRow(n)
				row[at].Size = row[before].Size
				wantQueue(t, row, true)
			}
			row = longRow(n)
			row[at].Level, row[at].Turn = row[at-1].Level, row[at-1].Turn
			wantQueue(t, row, false)
		}
	}
}

// TestQueueOkPairs has equal entries: of the same Level, of the same Turn, of
// the same Id, and of several of these.
func TestQueueOkPairs(t *testing.T) {
	for _, level := range []int{1, 2, 3} {
		for _, turn := range []int{499, 500, 501} {
			for _, id := range []int{49, 50, 51} {
				for _, size := range []int{2, 3, 4} {
					a, b := middleEntry(), impl.Entry{Level: level, Turn: turn, Id: id, Size: size}
					wantQueue(t, []impl.Entry{a, b}, entryAhead(a, b) && id != 50)
					wantQueue(t, []impl.Entry{b, a}, entryAhead(b, a) && id != 50)
				}
			}
		}
	}
}

func TestQueuePut(t *testing.T) {
	row := threeEntries()
	for _, c := range []struct{ level, turn, at int }{
		{0, 1, 0}, {0, 1000000, 0}, {0, 20, 0}, {1, 1, 0}, {1, 19, 0},
		{1, 21, 1}, {1, 29, 1}, {1, 31, 2}, {1, 1000000, 2}, {2, 1, 2}, {2, 20, 2}, {2, 30, 2}, {2, 1000000, 2}, {3, 9, 2}, {3, 1, 2},
		{3, 11, 3}, {3, 1000000, 3}, {4, 1, 3}, {4, 10, 3}, {4, 1000000, 3},
	} {
		for _, id := range []int{1, 5, 10, 999} {
			e := impl.Entry{Level: c.level, Turn: c.turn, Id: id, Size: 1 + id%6}
			wantPut(t, row, e, slices.Insert(threeEntries(), c.at, e))
		}
	}
	for _, e := range []impl.Entry{leastEntry(), middleEntry(), greatestEntry()} {
		wantPut(t, nil, e, []impl.Entry{e})
		wantPut(t, []impl.Entry{}, e, []impl.Entry{e})
	}
	wantPut(t, []impl.Entry{greatestEntry()}, leastEntry(), []impl.Entry{leastEntry(), greatestEntry()})
	wantPut(t, []impl.Entry{leastEntry()}, greatestEntry(), []impl.Entry{leastEntry(), greatestEntry()})
}

// TestQueuePutEqual has entries equal to one of the list: of the same Level and
// Turn, or of the same Id, none is inserted; of the same Level or Turn alone,
// or of the same Size, it is.
func TestQueuePutEqual(t *testing.T) {
	row := threeEntries()
	for at, e := range row {
		wantNotPut(t, row, e)
		for _, id := range []int{1, 5, 999} {
			for _, size := range []int{1, e.Size, 6} {
				wantNotPut(t, row, impl.Entry{Level: e.Level, Turn: e.Turn, Id: id, Size: size})
				wantPut(t, row, impl.Entry{Level: e.Level, Turn: e.Turn - 1, Id: id, Size: size}, slices.Insert(threeEntries(), at, impl.Entry{Level: e.Level, Turn: e.Turn - 1, Id: id, Size: size}))
				wantPut(t, row, impl.Entry{Level: e.Level, Turn: e.Turn + 1, Id: id, Size: size}, slices.Insert(threeEntries(), at+1, impl.Entry{Level: e.Level, Turn: e.Turn + 1, Id: id, Size: size}))
			}
		}
		for level := range 5 {
			for _, turn := range []int{1, 15, 25, 35, 1000000} {
				wantNotPut(t, row, impl.Entry{Level: level, Turn: turn, Id: e.Id, Size: e.Size})
				wantNotPut(t, row, impl.Entry{Level: level, Turn: turn, Id: e.Id, Size: 1})
			}
		}
	}
	wantNotPut(t, []impl.Entry{middleEntry()}, middleEntry())
}

func TestQueuePutRoom(t *testing.T) {
	for n := range 10 {
		row := longRow(n)
		wantPut(t, row, leastEntry(), slices.Insert(longRow(n), 0, leastEntry()))
		wantPut(t, row, greatestEntry(), append(longRow(n), greatestEntry()))
		e := impl.Entry{Level: 1, Turn: 77, Id: 77, Size: 2}
		wantPut(t, row, e, slices.Insert(longRow(n), min(n, 3), e))
	}
	for n := 10; n <= 13; n++ {
		for _, e := range []impl.Entry{leastEntry(), middleEntry(), greatestEntry()} {
			wantNotPut(t, longRow(n), e)
		}
	}
}

func TestQueuePutInvalid(t *testing.T) {
	for _, row := range goodRows() {
		for _, e := range badEntries() {
			wantNotPut(t, row, e)
		}
	}
	for _, row := range badRows() {
		for _, e := range append(row[:min(3, len(row)):min(3, len(row))], leastEntry(), middleEntry(), greatestEntry(), impl.Entry{}, impl.Entry{Level: 2, Turn: 7, Id: 77, Size: 1}) {
			wantNotPut(t, row, e)
		}
	}
}

// TestQueuePutDefinition puts each of many entries into each of many lists.
func TestQueuePutDefinition(t *testing.T) {
	for _, row := range slices.Concat(goodRows(), badRows()) {
		for level := -1; level <= 5; level++ {
			for _, turn := range []int{0, 1, 10, 20, 25, 30, 107, 500, 1000000, 1000001} {
				for _, id := range []int{0, 4, 50, 77, 489, 999} {
					e := impl.Entry{Level: level, Turn: turn, Id: id, Size: 2}
					at := 0
					for at < len(row) && entryAhead(row[at], e) {
						at++
					}
					longer := slices.Concat(row[:at], []impl.Entry{e}, row[at:])
					if impl.QueueOk(row) && impl.QueueOk(longer) {
						wantPut(t, row, e, longer)
					} else {
						wantNotPut(t, row, e)
					}
				}
			}
		}
	}
}

func TestQueueAtAndCut(t *testing.T) {
	row := threeEntries()
	for _, c := range []struct{ id, at int }{{8, 0}, {9, 1}, {4, 2}, {1, -1}, {5, -1}, {0, -1}, {-8, -1}, {999, -1}, {1<<32 + 8, -1}, {-1<<32 + 8, -1}, {math.MaxInt, -1}, {math.MinInt, -1}} {
		wantAt(t, row, c.id, c.at)
		wantAt(t, nil, c.id, -1)
		wantAt(t, []impl.Entry{}, c.id, -1)
	}
	for _, e := range []impl.Entry{leastEntry(), middleEntry(), greatestEntry()} {
		wantAt(t, []impl.Entry{e}, e.Id, 0)
		wantAt(t, []impl.Entry{e}, e.Id+1, -1)
		wantAt(t, []impl.Entry{e}, e.Turn+e.Id, -1)
	}
	for n := 1; n <= 14; n++ {
		for at, e := range longRow(n) {
			wantAt(t, longRow(n), e.Id, at)
			wantAt(t, longRow(n), e.Id-1, -1)
		}
	}
}

// TestQueueAtTheFirst has Ids that occur twice, in lists that are not QueueOk;
// the first entry counts, and the others stay.
func TestQueueAtTheFirst(t *testing.T) {
	a, b, c := impl.Entry{Level: 1, Turn: 20, Id: 8, Size: 5}, impl.Entry{Level: 1, Turn: 30, Id: 8, Size: 2}, impl.Entry{Level: 3, Turn: 10, Id: 4, Size: 3}
	wantAt(t, []impl.Entry{a, b, c}, 8, 0)
	wantAt(t, []impl.Entry{b, a, c}, 8, 0)
	wantAt(t, []impl.Entry{a, c, b}, 8, 0)
	wantAt(t, []impl.Entry{c, a, b}, 8, 1)
	wantAt(t, []impl.Entry{c, a, b}, 4, 0)
	wantAt(t, []impl.Entry{a, c, b, c, a}, 4, 1)
	wantAt(t, []impl.Entry{a, a, a}, 8, 0)
	wantAt(t, slices.Repeat([]impl.Entry{c}, 40), 4, 0)
	for _, id := range append(extremes(), 0, -1, 1000) {
		bad := impl.Entry{Level: -3, Turn: -1, Id: id, Size: 0}
		wantAt(t, []impl.Entry{a, bad, c, bad}, id, 1)
		wantAt(t, []impl.Entry{bad}, id, 0)
	}
	for _, row := range badRows() {
		for at, e := range row {
			first := at
			for i := range at {
				if row[i].Id == e.Id {
					first = min(first, i)
				}
			}
			wantAt(t, row, e.Id, first)
		}
	}
}

func TestFirstFit(t *testing.T) {
	row := []impl.Entry{{Level: 0, Turn: 5, Id: 7, Size: 4}, {Level: 0, Turn: 6, Id: 3, Size: 6}, {Level: 1, Turn: 2, Id: 9, Size: 1}, {Level: 2, Turn: 1, Id: 5, Size: 4}, {Level: 2, Turn: 3, Id: 2, Size: 2}}
	for _, c := range []struct {
		free int
		skip []int
		want int
	}{
		{0, nil, -1}, {-1, nil, -1}, {math.MinInt, nil, -1},
		{1, nil, 2}, {2, nil, 2}, {3, nil, 2}, {4, nil, 0}, {5, nil, 0}, {6, nil, 0}, {7, nil, 0}, {math.MaxInt, nil, 0}, {6, []int{}, 0},
		{6, []int{7}, 1}, {5, []int{7}, 2}, {4, []int{7}, 2}, {6, []int{3}, 0}, {6, []int{7, 3}, 2}, {6, []int{3, 7}, 2}, {6, []int{9, 3, 7}, 3}, {3, []int{9}, 4}, {2, []int{9}, 4},
		{1, []int{9}, -1}, {3, []int{9, 2}, -1}, {3, []int{2}, 2}, {6, []int{7, 3, 9, 5}, 4}, {1, []int{7, 3, 9, 5}, -1},
		{6, []int{7, 3, 9, 5, 2}, -1}, {6, []int{2, 5, 9, 3, 7}, -1}, {math.MaxInt, []int{2, 5, 9, 3, 7}, -1}, {0, []int{2, 5, 9, 3, 7}, -1},
		{6, []int{0, 1, 4, 6, 8, 10, -7, 1000, 1<<32 + 7}, 0}, {6, []int{7, 7, 7}, 1}, {6, []int{7, 1, 7}, 1}, {6, []int{1, 7, 7, 3}, 2},
	} {
		wantFit(t, row, c.free, c.skip, c.want)
		wantFit(t, nil, c.free, c.skip, -1)
	}
}

// TestFirstFitSizes has a list of one entry of each Size.
func TestFirstFitSizes(t *testing.T) {
	for size := 1; size <= 6; size++ {
		row := []impl.Entry{{Level: 2, Turn: 500, Id: 50, Size: size}}
		for free := -1; free <= 8; free++ {
			want := -1
			if free >= size {
				want = 0
			}
			wantFit(t, row, free, nil, want)
			wantFit(t, row, free, []int{size, 2, 500, 51}, want)
			wantFit(t, row, free, []int{50}, -1)
		}
	}
}

// TestFirstFitInvalid has lists that are not QueueOk, which FirstFit does not
// ask for.
func TestFirstFitInvalid(t *testing.T) {
	row := []impl.Entry{{Id: 5, Size: 3}, {Id: 5, Size: 2}, {Id: 0, Size: 0}, {Id: -1, Size: -4}, {Id: 9, Size: math.MaxInt}, {Id: 8, Size: math.MinInt}}
	for _, c := range []struct {
		free int
		skip []int
		want int
	}{
		{3, nil, 0}, {2, nil, 1}, {1, nil, 2}, {0, nil, 2}, {-1, nil, 3}, {-4, nil, 3}, {-5, nil, 5}, {math.MinInt, nil, 5}, {math.MinInt, []int{8}, -1},
		{3, []int{5}, 2}, {3, []int{5, 0}, 3}, {math.MaxInt, []int{5, 0, -1}, 4}, {math.MaxInt - 1, []int{5, 0, -1}, 5}, {math.MaxInt, []int{5, 0, -1, 9}, 5}, {math.MaxInt, []int{5, 0, -1, 8, 9}, -1},
	} {
		wantFit(t, row, c.free, c.skip, c.want)
	}
}

// TestNothingBeforeTheFirstFitFits is the second half of P7.
func TestNothingBeforeTheFirstFitFits(t *testing.T) {
	for _, row := range slices.Concat(goodRows(), badRows()[:20]) {
		for free := -1; free <= 7; free++ {
			for chosen := range 64 {
				var skip []int
				for i, e := range row {
					if chosen>>(i%6)&1 == 1 {
						skip = append(skip, e.Id)
					}
				}
				at := impl.FirstFit(row, free, skip)
				fits := func(e impl.Entry) bool { return e.Size <= free && !slices.Contains(skip, e.Id) }
				if at < -1 || at >= len(row) || at >= 0 && !fits(row[at]) {
					t.Fatalf("FirstFit(%+v, %d, %v) = %d", row, free, skip, at)
				}
				before := row[:max(at, 0)]
				if at < 0 {
					before = row
				}
				if slices.ContainsFunc(before, fits) {
					t.Errorf("FirstFit(%+v, %d, %v) = %d, but an entry before it fits", row, free, skip, at)
				}
			}
		}
	}
}

// queueParties has two cabins of plainRules, with offers and parties that are
// not PartyOk among those that wait.
func queueParties() []impl.Party {
	return []impl.Party{
		{Id: 11, Cabin: 1, From: -1, Size: 4, Tier: 2, Since: 6, Turn: 3, State: 1},
		{Id: 12, Cabin: 0, From: 1, Size: 1, Tier: 0, Since: 1, Turn: 2, State: 1, Until: 9, Asked: 2},
		{Id: 13, Cabin: 1, From: 0, Size: 2, Tier: 1, Since: 5, Turn: 9, State: 1, Until: 9},
		{Id: 14, Cabin: 1, From: 0, Size: 2, Tier: 0, Since: 5, Turn: 8, State: 2, Until: 10},
		{Id: 15, Cabin: 1, From: -1, Size: 3, Tier: 2, Since: 2, Turn: 4, State: 1, Until: 3},
		{Id: 16, Cabin: 1, From: -1, Size: 5, Tier: 0, Since: 2, Turn: 1, State: 1},
		{Id: 17, Cabin: 1, From: -1, Size: 1, Tier: 2, Since: 0, Turn: 1, State: 1},
		{Id: 18, Cabin: 0, From: -1, Size: 1, Tier: 1, Since: 5, Turn: 5, State: 2, Until: 8},
		{Id: 19, Cabin: 2, From: -1, Size: 1, Tier: 2, Since: 0, Turn: 1, State: 1},
	}
}

func TestQueueOf(t *testing.T) {
	r, list := plainRules(), queueParties()
	wantMade(t, r, list, 0, 7, []impl.Entry{{Level: 0, Turn: 2, Id: 12, Size: 1}})
	wantMade(t, r, list, 1, 7, []impl.Entry{{Level: 1, Turn: 1, Id: 17, Size: 1}, {Level: 1, Turn: 4, Id: 15, Size: 3}, {Level: 1, Turn: 9, Id: 13, Size: 2}, {Level: 2, Turn: 3, Id: 11, Size: 4}})
	wantMade(t, r, list, 1, 10, []impl.Entry{{Level: 0, Turn: 1, Id: 17, Size: 1}, {Level: 0, Turn: 9, Id: 13, Size: 2}, {Level: 1, Turn: 4, Id: 15, Size: 3}, {Level: 2, Turn: 3, Id: 11, Size: 4}})
	wantMade(t, r, list, 1, 100, []impl.Entry{{Level: 0, Turn: 1, Id: 17, Size: 1}, {Level: 0, Turn: 3, Id: 11, Size: 4}, {Level: 0, Turn: 4, Id: 15, Size: 3}, {Level: 0, Turn: 9, Id: 13, Size: 2}})
	wantMade(t, r, list, 1, 4, []impl.Entry{{Level: 2, Turn: 1, Id: 17, Size: 1}, {Level: 2, Turn: 4, Id: 15, Size: 3}})
	wantMade(t, r, list, 1, 0, []impl.Entry{{Level: 2, Turn: 1, Id: 17, Size: 1}})
	wantMade(t, r, list, 0, 0, nil)
	for _, cabin := range append(extremes(), 2, 3, -1, 1<<32, 1<<32+1, -1<<32) {
		wantMade(t, r, list, cabin, 7, nil)
	}
	for _, now := range wrongTicks() {
		wantMade(t, r, list, 1, now, nil)
	}
	for _, r := range badRules() {
		wantMade(t, r, []impl.Party{waiter(), waiter()}, 0, 7, nil)
	}
	wantMade(t, r, nil, 0, 7, nil)
	wantMade(t, r, []impl.Party{}, 1, 7, nil)
}

func TestQueueOfInvalidParties(t *testing.T) {
	for _, r := range partyRules() {
		for _, now := range someTicks() {
			list := badParties(r, now)
			for cabin := -1; cabin <= 4; cabin++ {
				wantMade(t, r, list, cabin, now, nil)
				wantMade(t, r, []impl.Party{holder(), greatestParty(r, holder(), now)}, cabin, now, nil)
			}
			want := []impl.Entry{{Turn: 1, Id: 1, Size: 1}}
			wantMade(t, r, append(list, waiter()), 0, now, want)
			wantMade(t, r, slices.Insert(list, 0, waiter()), 0, now, want)
		}
	}
}

// TestQueueOfEqual has parties whose entries are neither less than the other:
// they stay in the order of the list. Ids may occur twice.
func TestQueueOfEqual(t *testing.T) {
	r := plainRules()
	one := impl.Party{Id: 30, From: -1, Size: 4, Tier: 1, Since: 7, Turn: 6, State: 1}
	two := impl.Party{Id: 20, From: 1, Size: 1, Tier: 2, Since: 1, Turn: 6, State: 1, Asked: 1}
	six := impl.Party{Id: 25, From: -1, Size: 2, Tier: 1, Since: 4, Turn: 6, State: 1, Until: 9}
	a, b, c := impl.Entry{Level: 1, Turn: 6, Id: 30, Size: 4}, impl.Entry{Level: 1, Turn: 6, Id: 20, Size: 1}, impl.Entry{Level: 1, Turn: 6, Id: 25, Size: 2}
	for _, turn := range []struct {
		list []impl.Party
		want []impl.Entry
	}{
		{[]impl.Party{one, two, six}, []impl.Entry{a, b, c}},
		{[]impl.Party{one, six, two}, []impl.Entry{a, c, b}},
		{[]impl.Party{two, one, six}, []impl.Entry{b, a, c}},
		{[]impl.Party{two, six, one}, []impl.Entry{b, c, a}},
		{[]impl.Party{six, one, two}, []impl.Entry{c, a, b}},
		{[]impl.Party{six, two, one}, []impl.Entry{c, b, a}},
		{[]impl.Party{one, one, two, one}, []impl.Entry{a, a, b, a}},
	} {
		wantMade(t, r, turn.list, 0, 7, turn.want)
		first, last := one, one
		first.Turn, last.Turn = 5, 7
		wantMade(t, r, slices.Concat([]impl.Party{last}, turn.list, []impl.Party{first}), 0, 7, slices.Concat([]impl.Entry{{Level: 1, Turn: 5, Id: 30, Size: 4}}, turn.want, []impl.Entry{{Level: 1, Turn: 7, Id: 30, Size: 4}}))
	}
}

// TestQueueOfMany has more parties than a cabin has room for, and many equal
// ones, so that a sort which is not stable would show.
func TestQueueOfMany(t *testing.T) {
	r := mixedRules()
	var list []impl.Party
	for i := range 600 {
		list = append(list, impl.Party{Id: i + 1, Cabin: i % 3, From: -1, Size: i%6 + 1, Tier: i * 7 % 5, Since: i % 2, Turn: 1 + i*13%4, State: 1 + i%5/4, Until: 1})
	}
	for cabin := range 4 {
		for _, now := range []int{1, 7, 12, 13, 25, 1000000} {
			var want []impl.Entry
			for _, p := range list {
				if p.Cabin != cabin || p.State != 1 {
					continue
				}
				e := impl.Entry{Level: levelAfter(r, p.Tier, now-p.Since), Turn: p.Turn, Id: p.Id, Size: p.Size}
				at := len(want)
				for at > 0 && entryAhead(e, want[at-1]) {
					at--
				}
				want = slices.Insert(want, at, e)
			}
			wantMade(t, r, list, cabin, now, want)
		}
	}
}

// keptRow is a waiting list of one cabin that QueuePut and QueueCut keep up to
// date.
type keptRow struct {
	r    impl.Rules
	now  int
	list []impl.Party
	row  []impl.Entry
}

func (k *keptRow) put(t *testing.T, p impl.Party) {
	t.Helper()
	e, ok := impl.EntryOf(k.r, p, k.now)
	if !ok {
		t.Fatalf("EntryOf(%v, %+v, %d) fails", k.r, p, k.now)
	}
	if k.row, ok = impl.QueuePut(k.row, e); !ok {
		t.Fatalf("QueuePut(%+v, %+v) fails", k.row, e)
	}
}

func (k *keptRow) cut(t *testing.T, id int) {
	t.Helper()
	ok := false
	if k.row, ok = impl.QueueCut(k.row, id); !ok {
		t.Fatalf("QueueCut(%+v, %d) fails", k.row, id)
	}
}

// offer changes the state of the party at an index, and with it the list.
func (k *keptRow) offer(t *testing.T, at int) {
	t.Helper()
	p := &k.list[at]
	if p.State == 1 {
		p.State, p.Until = 2, k.now+1
		k.cut(t, p.Id)
	} else {
		p.State, p.Until = 1, 0
		k.put(t, *p)
	}
}

// tick moves the parties whose level changes.
func (k *keptRow) tick(t *testing.T) {
	t.Helper()
	k.now++
	for _, p := range k.list {
		if p.Cabin == 0 && p.State == 1 && impl.LevelOf(k.r, p, k.now) != impl.LevelOf(k.r, p, k.now-1) {
			k.cut(t, p.Id)
		}
	}
	for _, p := range k.list {
		if p.Cabin == 0 && p.State == 1 && impl.QueueAt(k.row, p.Id) < 0 {
			k.put(t, p)
		}
	}
}

func (k *keptRow) check(t *testing.T) {
	t.Helper()
	wantMade(t, k.r, k.list, 0, k.now, k.row)
	wantQueue(t, k.row, true)
	for _, p := range k.list {
		if there := impl.QueueAt(k.row, p.Id) >= 0; there != (p.Cabin == 0 && p.State == 1) {
			t.Errorf("the party %+v is in the list %+v: %v", p, k.row, there)
		}
	}
}

// TestMaintainedListsEqualRecomputedOnes is the first half of P7: parties join,
// leave, get offers, wait again and improve their level, and after each step
// the list that is kept up to date equals QueueOf.
func TestMaintainedListsEqualRecomputedOnes(t *testing.T) {
	for seed := range 60 {
		k := &keptRow{r: mixedRules()}
		k.r.Period = 1 + seed%6
		n := seed*7919 + 1
		for step := range 250 {
			n = (n*1103515245 + 12345) % (1 << 31)
			pick := n >> 8
			switch pick % 5 {
			case 0, 1:
				if len(k.list) < 10 {
					// Equal turns are left out: QueuePut does not take them.
					p := impl.Party{Id: 1 + (step*35+seed)%999, Cabin: pick / 5 % 4 / 3, From: -1, Size: 1 + pick/20%6, Tier: pick / 120 % 5, Since: k.now, Turn: step + 1, State: 1}
					k.list = slices.Insert(k.list, pick/600%(len(k.list)+1), p)
					if p.Cabin == 0 {
						k.put(t, p)
					}
				}
			case 2:
				if len(k.list) > 0 {
					at := pick / 5 % len(k.list)
					if p := k.list[at]; p.Cabin == 0 && p.State == 1 {
						k.cut(t, p.Id)
					}
					k.list = slices.Delete(k.list, at, at+1)
				}
			case 3:
				if len(k.list) > 0 && k.list[pick/5%len(k.list)].Cabin == 0 {
					k.offer(t, pick/5%len(k.list))
				}
			case 4:
				k.tick(t)
			}
			k.check(t)
		}
	}
}

// TestPutInEachOrder puts the same parties in each of their orders.
func TestPutInEachOrder(t *testing.T) {
	r := plainRules()
	list := []impl.Party{
		{Id: 4, From: -1, Size: 1, Tier: 2, Since: 0, Turn: 3, State: 1},
		{Id: 3, From: -1, Size: 2, Tier: 0, Since: 3, Turn: 9, State: 1},
		{Id: 2, From: -1, Size: 3, Tier: 1, Since: 2, Turn: 4, State: 1},
		{Id: 1, From: -1, Size: 4, Tier: 2, Since: 1, Turn: 5, State: 1},
	}
	for order := range 256 {
		k := &keptRow{r: r, now: 5 + order%7}
		left := slices.Clone(list)
		for i := range list {
			at := order >> (2 * i) % len(left)
			k.list = append(k.list, left[at])
			k.put(t, left[at])
			k.check(t)
			left = slices.Delete(left, at, at+1)
		}
		wantMade(t, r, list, 0, k.now, k.row)
		for len(k.list) > 0 {
			at := order % len(k.list)
			k.cut(t, k.list[at].Id)
			k.list = slices.Delete(k.list, at, at+1)
			k.check(t)
		}
	}
}

// roomyEntries has entries behind the list, in its unused capacity.
func roomyEntries(list []impl.Entry) ([]impl.Entry, []impl.Entry) {
	all := slices.Concat(list, []impl.Entry{{Level: 4, Turn: 999, Id: 77, Size: 1}, {Level: 4, Turn: 1000, Id: 78, Size: 1}, {}})
	return all[:len(list)], all
}

func spoilEntries(list []impl.Entry) {
	list = list[:cap(list)]
	for i := range list {
		list[i] = impl.Entry{Level: -99, Turn: -99, Id: -99, Size: -99}
	}
}

// changedRows are the lists that QueuePut and QueueCut return, where they change
// the list and where they do not.
func changedRows(list []impl.Entry) [][]impl.Entry {
	var rows [][]impl.Entry
	for _, e := range []impl.Entry{leastEntry(), middleEntry(), greatestEntry(), {}, {Level: 4, Turn: 999, Id: 77, Size: 1}} {
		row, _ := impl.QueuePut(list, e)
		rows = append(rows, row)
	}
	ids := []int{0, 77, 999}
	for _, e := range list {
		ids = append(ids, e.Id)
	}
	for _, id := range ids {
		row, _ := impl.QueueCut(list, id)
		rows = append(rows, row)
	}
	return rows
}

// TestQueueArgumentsAreKept covers the unused capacity of the lists too.
func TestQueueArgumentsAreKept(t *testing.T) {
	for _, row := range slices.Concat(goodRows(), badRows()) {
		list, all := roomyEntries(row)
		was := slices.Clone(all)
		skip, skips := roomyNums([]int{8, 50})
		wasSkip := slices.Clone(skips)
		one, two := changedRows(slices.Clone(row)), changedRows(list)
		same := impl.QueueOk(list) == impl.QueueOk(row) && impl.QueueAt(list, 77) == impl.QueueAt(row, 77)
		for free := range 8 {
			same = same && impl.FirstFit(list, free, skip) == impl.FirstFit(row, free, []int{8, 50})
			same = same && impl.FirstFit(row, free, skips[:0]) == impl.FirstFit(row, free, nil)
		}
		if !same || !slices.EqualFunc(one, two, slices.Equal[[]impl.Entry]) {
			t.Errorf("the capacity of %+v is read", row)
		}
		if !slices.Equal(all, was) || !slices.Equal(skips, wasSkip) {
			t.Errorf("the list %+v became %+v, and skip %v", was, all, skips)
		}
	}
}

func TestQueueResultsShareNoMemory(t *testing.T) {
	for _, row := range slices.Concat(goodRows(), badRows()) {
		list, all := roomyEntries(row)
		was := slices.Clone(all)
		rows := changedRows(list)
		kept := changedRows(slices.Clone(row))
		for i := range rows {
			if !slices.Equal(rows[i], kept[i]) {
				t.Errorf("the list %+v became %+v", kept[i], rows[i])
			}
			spoilEntries(rows[i])
		}
		if !slices.Equal(all, was) {
			t.Errorf("a result shares memory with %+v", was)
		}
	}
}

func TestQueueOfArgumentsAreKept(t *testing.T) {
	for _, r := range []impl.Rules{plainRules(), mixedRules(), withSeats(plainRules()), {}} {
		seats, allSeats := roomyNums(r.Seats)
		wasSeats := slices.Clone(allSeats)
		room := withSeats(r, seats...)
		all := append(queueParties(), waiter(), impl.Party{Id: 2, Cabin: 1, From: -1, Size: 1, Turn: 9, State: 1})
		was := slices.Clone(all)
		list := all[:len(all)-2]
		for cabin := range 4 {
			one, two := impl.QueueOf(r, slices.Clone(list), cabin, 7), impl.QueueOf(room, list, cabin, 7)
			if !slices.Equal(one, two) {
				t.Errorf("QueueOf(%v, %+v, %d, 7) reads the capacity: %+v, %+v", r, list, cabin, one, two)
			}
			spoilEntries(one)
			wantMade(t, r, list, cabin, 7, two)
			for _, p := range all {
				if _, ok := impl.EntryOf(room, p, 7); ok && !impl.PartyOk(r, p, 7) {
					t.Errorf("EntryOf(%v, %+v, 7) reads the capacity of Seats", r, p)
				}
			}
		}
		if !slices.Equal(all, was) || !slices.Equal(allSeats, wasSeats) {
			t.Errorf("the parties %+v became %+v", was, all)
		}
	}
}
