package tests

import (
	"math"
	"slices"
	"strconv"
	"strings"
	"testing"

	"loop.example/g00494/impl"
)

// ruleField is one number of the rules, with the limits that the document sets.
type ruleField struct {
	name  string
	least int
	most  int
	of    func(*impl.Rules) *int
}

// ruleFields returns the fields in the order of RulesNums.
func ruleFields() []ruleField {
	return []ruleField{
		{"Tiers", 1, 5, func(r *impl.Rules) *int { return &r.Tiers }},
		{"Room", 1, 10, func(r *impl.Rules) *int { return &r.Room }},
		{"Size", 1, 6, func(r *impl.Rules) *int { return &r.Size }},
		{"Period", 1, 12, func(r *impl.Rules) *int { return &r.Period }},
		{"Window", 1, 8, func(r *impl.Rules) *int { return &r.Window }},
		{"Rest", 0, 8, func(r *impl.Rules) *int { return &r.Rest }},
		{"Tries", 1, 4, func(r *impl.Rules) *int { return &r.Tries }},
		{"Crew", 1, 3, func(r *impl.Rules) *int { return &r.Crew }},
	}
}

// mixedRules returns rules in which no two numbers are equal, so that one in
// the wrong place is seen.
func mixedRules() impl.Rules {
	return impl.Rules{Seats: []int{60, 1, 31, 2}, Tiers: 5, Room: 10, Size: 6, Period: 12, Window: 8, Rest: 7, Tries: 4, Crew: 3}
}

const mixedLine = "5 10 6 12 8 7 4 3 60 1 31 2"

func mixedNums() []int { return []int{5, 10, 6, 12, 8, 7, 4, 3, 60, 1, 31, 2} }

func leastRules() impl.Rules {
	return impl.Rules{Seats: []int{1}, Tiers: 1, Room: 1, Size: 1, Period: 1, Window: 1, Rest: 0, Tries: 1, Crew: 1}
}

func greatestRules() impl.Rules {
	return impl.Rules{Seats: []int{60, 60, 60, 60}, Tiers: 5, Room: 10, Size: 6, Period: 12, Window: 8, Rest: 8, Tries: 4, Crew: 3}
}

func withField(r impl.Rules, f ruleField, n int) impl.Rules {
	*f.of(&r) = n
	return r
}

func withSeats(r impl.Rules, seats ...int) impl.Rules {
	r.Seats = seats
	return r
}

// withSeat has n seats in one of several cabins.
func withSeat(r impl.Rules, cabins, at, n int) impl.Rules {
	r.Seats = slices.Repeat([]int{30}, cabins)
	r.Seats[at] = n
	return r
}

// okRules has every valid value of every field and of every cabin.
func okRules() []impl.Rules {
	list := []impl.Rules{mixedRules(), leastRules(), greatestRules()}
	for _, f := range ruleFields() {
		for n := f.least; n <= f.most; n++ {
			list = append(list, withField(mixedRules(), f, n), withField(leastRules(), f, n), withField(greatestRules(), f, n))
		}
	}
	for cabins := 1; cabins <= 4; cabins++ {
		for at := range cabins {
			for n := 1; n <= 60; n++ {
				list = append(list, withSeat(mixedRules(), cabins, at, n))
			}
		}
	}
	return list
}

// farNums are beyond the limits of every field; some of them would be valid in
// a smaller integer type.
func farNums() []int {
	return []int{-2, -60, 62, 257, -255, 1<<16 + 1, 1<<32 + 1, -1<<32 + 1, math.MaxInt - 1, math.MaxInt, math.MinInt, math.MinInt + 1}
}

func badRules() []impl.Rules {
	list := []impl.Rules{{}, {Seats: []int{4}}, {Seats: []int{0, 0, 0, 0}}}
	for _, base := range []impl.Rules{mixedRules(), leastRules(), greatestRules()} {
		for _, f := range ruleFields() {
			for _, n := range append(farNums(), f.least-1, f.most+1, -1) {
				list = append(list, withField(base, f, n))
			}
		}
		list = append(list, withSeats(base), withSeats(base, []int{}...), withSeats(base, make([]int, 0, 4)...))
		list = append(list, withSeats(base, 1, 1, 1, 1, 1), withSeats(base, 60, 60, 60, 60, 60), withSeats(base, slices.Repeat([]int{7}, 300)...))
		for cabins := 1; cabins <= 5; cabins++ {
			for at := range cabins {
				for _, n := range append(farNums(), 0, -1, 61) {
					list = append(list, withSeat(base, cabins, at, n))
				}
			}
		}
	}
	return list
}

// rulesEqual does without SameRules, which is itself under test.
func rulesEqual(a, b impl.Rules) bool {
	for _, f := range ruleFields() {
		if *f.of(&a) != *f.of(&b) {
			return false
		}
	}
	return slices.Equal(a.Seats, b.Seats)
}

// numsBehind puts the numbers of r in their order.
func numsBehind(r impl.Rules) []int {
	var list []int
	for _, f := range ruleFields() {
		list = append(list, *f.of(&r))
	}
	return append(list, r.Seats...)
}

func lineBehind(list []int) string {
	var words []string
	for _, n := range list {
		words = append(words, strconv.Itoa(n))
	}
	return strings.Join(words, " ")
}

// rulesBehind reads a list by the limits of the document.
func rulesBehind(list []int) (impl.Rules, bool) {
	if len(list) < 9 || len(list) > 12 {
		return impl.Rules{}, false
	}
	var r impl.Rules
	for i, f := range ruleFields() {
		if list[i] < f.least || list[i] > f.most {
			return impl.Rules{}, false
		}
		*f.of(&r) = list[i]
	}
	for _, n := range list[8:] {
		if n < 1 || n > 60 {
			return impl.Rules{}, false
		}
		r.Seats = append(r.Seats, n)
	}
	return r, true
}

// rulesWritten reads a line by the limits of the document.
func rulesWritten(s string) (impl.Rules, bool) {
	var list []int
	for _, word := range strings.Split(s, " ") {
		n, err := strconv.Atoi(word)
		if err != nil || strconv.Itoa(n) != word {
			return impl.Rules{}, false
		}
		list = append(list, n)
	}
	return rulesBehind(list)
}

func wantRules(t *testing.T, what string, got impl.Rules, ok bool, want impl.Rules, there bool) {
	t.Helper()
	if !rulesEqual(got, want) || ok != there {
		t.Errorf("%s = %v, %v, want %v, %v", what, got, ok, want, there)
	}
}

func wantNoRules(t *testing.T, what string, got impl.Rules, ok bool) {
	t.Helper()
	wantRules(t, what, got, ok, impl.Rules{}, false)
}

// levelAfter takes the periods one at a time.
func levelAfter(r impl.Rules, tier, waited int) int {
	for tier > 0 && waited >= r.Period {
		waited -= r.Period
		tier--
	}
	return tier
}

func wantLevel(t *testing.T, r impl.Rules, tier, waited, want int) {
	t.Helper()
	if got := impl.Level(r, tier, waited); got != want {
		t.Errorf("Level(%v, %d, %d) = %d, want %d", r, tier, waited, got, want)
	}
}

func wantTicks(t *testing.T, r impl.Rules, tier, level, want int) {
	t.Helper()
	if got := impl.TicksTo(r, tier, level); got != want {
		t.Errorf("TicksTo(%v, %d, %d) = %d, want %d", r, tier, level, got, want)
	}
}

// periodRules returns rules for each number of tiers and each period.
func periodRules() []impl.Rules {
	var list []impl.Rules
	for tiers := 1; tiers <= 5; tiers++ {
		for period := 1; period <= 12; period++ {
			r := mixedRules()
			r.Tiers, r.Period = tiers, period
			list = append(list, r)
		}
	}
	return list
}

// longWaits are in ascending order.
func longWaits() []int {
	return []int{61, 100, 999999, 1000000, 1<<31 - 1, 1 << 31, 1 << 32, 1<<32 + 1, 1 << 62, math.MaxInt - 12, math.MaxInt - 1, math.MaxInt}
}

func wrongTiers(r impl.Rules) []int {
	return []int{-1, -2, r.Tiers, r.Tiers + 1, 1 << 32, -1 << 32, math.MaxInt - 1, math.MaxInt, math.MinInt, math.MinInt + 1}
}

func negatives() []int {
	return []int{-1, -2, -11, -12, -13, -60, -1 << 31, -1 << 32, math.MinInt + 1, math.MinInt}
}

func TestRulesLimits(t *testing.T) {
	got := []int{impl.MaxCabins, impl.MaxSeats, impl.MaxTiers, impl.MaxRoom, impl.MaxSize, impl.MaxPeriod, impl.MaxWindow, impl.MaxRest, impl.MaxTries, impl.MaxCrew}
	if want := []int{4, 60, 5, 10, 6, 12, 8, 8, 4, 3}; !slices.Equal(got, want) {
		t.Errorf("the limits are %v, want %v", got, want)
	}
}

func TestRulesOk(t *testing.T) {
	for _, r := range okRules() {
		if !impl.RulesOk(r) {
			t.Errorf("RulesOk(%v) = false, want true", r)
		}
	}
	for _, r := range badRules() {
		if impl.RulesOk(r) {
			t.Errorf("RulesOk(%v) = true, want false", r)
		}
	}
}

func TestLevel(t *testing.T) {
	r := impl.Rules{Seats: []int{4}, Tiers: 4, Room: 6, Size: 4, Period: 5, Window: 3, Rest: 2, Tries: 2, Crew: 2}
	for _, c := range []struct{ tier, waited, want int }{
		{0, 0, 0}, {0, 4, 0}, {0, 5, 0}, {0, 6, 0}, {0, math.MaxInt, 0},
		{1, 0, 1}, {1, 4, 1}, {1, 5, 0}, {1, 6, 0}, {1, 10, 0},
		{2, 0, 2}, {2, 1, 2}, {2, 4, 2}, {2, 5, 1}, {2, 6, 1}, {2, 9, 1}, {2, 10, 0}, {2, 11, 0}, {2, 15, 0},
		{3, 0, 3}, {3, 4, 3}, {3, 5, 2}, {3, 9, 2}, {3, 10, 1}, {3, 14, 1}, {3, 15, 0}, {3, 16, 0}, {3, 20, 0},
		{3, 1000000, 0}, {3, math.MaxInt - 1, 0}, {3, math.MaxInt, 0},
		{-1, 0, -1}, {4, 0, -1}, {4, 30, -1}, {3, -1, -1}, {0, -1, -1}, {3, math.MinInt, -1}, {-1, -1, -1},
	} {
		wantLevel(t, r, c.tier, c.waited, c.want)
	}
	for _, r := range periodRules() {
		for tier := range r.Tiers {
			for waited := range 75 {
				wantLevel(t, r, tier, waited, levelAfter(r, tier, waited))
			}
			for _, waited := range longWaits() {
				wantLevel(t, r, tier, waited, 0)
			}
		}
	}
}

// TestLevelsChange visits the tick at which each level begins, and the ticks
// before and after it.
func TestLevelsChange(t *testing.T) {
	for _, r := range periodRules() {
		for tier := range r.Tiers {
			for level := range tier {
				at := (tier - level) * r.Period
				wantLevel(t, r, tier, at-1, level+1)
				wantLevel(t, r, tier, at, level)
				if r.Period > 1 || level == 0 {
					wantLevel(t, r, tier, at+1, level)
				} else {
					wantLevel(t, r, tier, at+1, level-1)
				}
			}
		}
	}
}

// TestWaitingNeverWorsensTheLevel is P5.
func TestWaitingNeverWorsensTheLevel(t *testing.T) {
	var waits []int
	for waited := range 61 {
		waits = append(waits, waited)
	}
	waits = append(waits, longWaits()...)
	for _, r := range append(periodRules(), okRules()...) {
		for tier := range r.Tiers {
			wantLevel(t, r, tier, 0, tier)
			last := tier
			for _, waited := range waits {
				level := impl.Level(r, tier, waited)
				if level < 0 || level > last {
					t.Errorf("Level(%v, %d, %d) = %d after %d at a shorter wait", r, tier, waited, level, last)
				}
				last = level
			}
			if last != 0 {
				t.Errorf("Level(%v, %d) ends at %d, want 0", r, tier, last)
			}
		}
	}
}

func TestLevelRejects(t *testing.T) {
	for _, r := range append(periodRules(), okRules()...) {
		for _, tier := range wrongTiers(r) {
			for _, waited := range []int{0, 1, r.Period, 60, math.MaxInt, -1, math.MinInt} {
				wantLevel(t, r, tier, waited, -1)
			}
		}
		for tier := range r.Tiers {
			for _, waited := range negatives() {
				wantLevel(t, r, tier, waited, -1)
			}
		}
	}
	for _, r := range badRules() {
		for _, tier := range []int{0, 1, 4, -1, r.Tiers, r.Tiers - 1, math.MaxInt, math.MinInt} {
			for _, waited := range []int{0, 1, 12, math.MaxInt, -1, math.MinInt} {
				wantLevel(t, r, tier, waited, -1)
			}
		}
	}
}

func TestTicksTo(t *testing.T) {
	r := impl.Rules{Seats: []int{4}, Tiers: 4, Room: 6, Size: 4, Period: 5, Window: 3, Rest: 2, Tries: 2, Crew: 2}
	for _, c := range []struct{ tier, level, want int }{
		{0, 0, 0}, {0, 1, 0}, {0, math.MaxInt, 0},
		{1, 0, 5}, {1, 1, 0}, {1, 2, 0}, {1, 4, 0},
		{2, 0, 10}, {2, 1, 5}, {2, 2, 0}, {2, 3, 0},
		{3, 0, 15}, {3, 1, 10}, {3, 2, 5}, {3, 3, 0}, {3, 4, 0}, {3, 5, 0}, {3, math.MaxInt - 1, 0}, {3, math.MaxInt, 0},
		{-1, 0, -1}, {4, 0, -1}, {4, 4, -1}, {3, -1, -1}, {0, -1, -1}, {3, math.MinInt, -1}, {-1, -1, -1},
	} {
		wantTicks(t, r, c.tier, c.level, c.want)
	}
}

func TestTicksToIsTheLeast(t *testing.T) {
	for _, r := range append(periodRules(), okRules()...) {
		for tier := range r.Tiers {
			for level := range tier + 3 {
				n := impl.TicksTo(r, tier, level)
				if n < 0 || impl.Level(r, tier, n) > level {
					t.Errorf("TicksTo(%v, %d, %d) = %d, where the level is %d", r, tier, level, n, impl.Level(r, tier, n))
				}
				for waited := range n {
					if impl.Level(r, tier, waited) <= level {
						t.Errorf("TicksTo(%v, %d, %d) = %d, but %d is enough", r, tier, level, n, waited)
					}
				}
			}
			for _, level := range append(longWaits(), tier, tier+1) {
				wantTicks(t, r, tier, level, 0)
			}
		}
	}
}

func TestTicksToRejects(t *testing.T) {
	for _, r := range append(periodRules(), okRules()...) {
		for _, tier := range wrongTiers(r) {
			for _, level := range []int{0, 1, 4, math.MaxInt, -1, math.MinInt} {
				wantTicks(t, r, tier, level, -1)
			}
		}
		for tier := range r.Tiers {
			for _, level := range negatives() {
				wantTicks(t, r, tier, level, -1)
			}
		}
	}
	for _, r := range badRules() {
		for _, tier := range []int{0, 1, 4, -1, r.Tiers, r.Tiers - 1, math.MaxInt, math.MinInt} {
			for _, level := range []int{0, 1, 12, math.MaxInt, -1, math.MinInt} {
				wantTicks(t, r, tier, level, -1)
			}
		}
	}
}

func TestRulesNums(t *testing.T) {
	if got := impl.RulesNums(mixedRules()); !slices.Equal(got, mixedNums()) {
		t.Errorf("RulesNums = %v, want %v", got, mixedNums())
	}
	if got, want := impl.RulesNums(leastRules()), []int{1, 1, 1, 1, 1, 0, 1, 1, 1}; !slices.Equal(got, want) {
		t.Errorf("RulesNums = %v, want %v", got, want)
	}
	for _, r := range okRules() {
		if got := impl.RulesNums(r); !slices.Equal(got, numsBehind(r)) {
			t.Errorf("RulesNums(%v) = %v", r, got)
		}
	}
	for _, r := range badRules() {
		if got := impl.RulesNums(r); got != nil {
			t.Errorf("RulesNums(%v) = %v, want nil", r, got)
		}
	}
}

func TestRulesLine(t *testing.T) {
	if got := impl.RulesLine(mixedRules()); got != mixedLine {
		t.Errorf("RulesLine = %q, want %q", got, mixedLine)
	}
	if got, want := impl.RulesLine(leastRules()), "1 1 1 1 1 0 1 1 1"; got != want {
		t.Errorf("RulesLine = %q, want %q", got, want)
	}
	for _, r := range okRules() {
		if got := impl.RulesLine(r); got != lineBehind(numsBehind(r)) {
			t.Errorf("RulesLine(%v) = %q", r, got)
		}
	}
	for _, r := range badRules() {
		if got := impl.RulesLine(r); got != "" {
			t.Errorf("RulesLine(%v) = %q, want \"\"", r, got)
		}
	}
}

func TestRulesRoundTrip(t *testing.T) {
	got, ok := impl.RulesIn(mixedNums())
	wantRules(t, "RulesIn", got, ok, mixedRules(), true)
	got, ok = impl.ReadRules(mixedLine)
	wantRules(t, "ReadRules", got, ok, mixedRules(), true)
	for _, r := range okRules() {
		got, ok := impl.RulesIn(impl.RulesNums(r))
		wantRules(t, "RulesIn of RulesNums", got, ok, r, true)
		got, ok = impl.ReadRules(impl.RulesLine(r))
		wantRules(t, "ReadRules of RulesLine", got, ok, r, true)
	}
}

func TestRulesInLengths(t *testing.T) {
	for size := range 40 {
		list := slices.Repeat([]int{1}, size)
		want, there := rulesBehind(list)
		if there != (size >= 9 && size <= 12) {
			t.Fatalf("rules behind %d numbers: %v", size, there)
		}
		got, ok := impl.RulesIn(list)
		wantRules(t, "RulesIn of "+strconv.Itoa(size)+" numbers", got, ok, want, there)
		line := strings.Join(slices.Repeat([]string{"1"}, size), " ")
		got, ok = impl.ReadRules(line)
		wantRules(t, "ReadRules of "+line, got, ok, want, there)
	}
	for size := range mixedNums() {
		// What is beyond the length does not count, even if it is there.
		list := mixedNums()[:size]
		want, there := rulesBehind(list)
		got, ok := impl.RulesIn(list)
		wantRules(t, "RulesIn of a part", got, ok, want, there)
	}
	for _, list := range [][]int{nil, {}, append(mixedNums(), 1), append(mixedNums(), 0), append(mixedNums(), mixedNums()...)} {
		got, ok := impl.RulesIn(list)
		wantNoRules(t, "RulesIn of a wrong length", got, ok)
	}
}

// TestRulesInRejects has lists and lines of the numbers of invalid rules, and a
// wrong number in each place of a valid list.
func TestRulesInRejects(t *testing.T) {
	var lists [][]int
	for _, r := range badRules() {
		lists = append(lists, numsBehind(r))
	}
	for i := range mixedNums() {
		for _, n := range append(farNums(), -1, 0, 61) {
			list := mixedNums()
			list[i] = n
			lists = append(lists, list)
		}
	}
	for _, list := range lists {
		// A Rest of 0 is among them, and valid.
		want, there := rulesBehind(list)
		got, ok := impl.RulesIn(list)
		wantRules(t, "RulesIn", got, ok, want, there)
		got, ok = impl.ReadRules(lineBehind(list))
		wantRules(t, "ReadRules", got, ok, want, there)
	}
}

func TestReadRulesRejects(t *testing.T) {
	nine := "1 1 1 1 1 0 1 1 "
	lines := []string{
		"", " ", "  ", "        ", "0", "1", "?", "\n", "\x00",
		nine, nine + " ", " " + nine + "1", nine + "1 ", nine + " 1", nine + "1\n", nine + "1\r", nine + "1\x00", "\n" + nine + "1",
		"1  1 1 1 1 0 1 1 1", "1 1 1 1 1  0 1 1 1", "1\t1 1 1 1 0 1 1 1", "1,1,1,1,1,0,1,1,1", "1 1 1 1 1 - 1 1 1",
		strings.ReplaceAll(nine, " ", "\n") + "1", "111110111", strings.Repeat(nine, 40), strings.Repeat(" ", 5000),
	}
	for _, word := range []string{
		"", "+1", "-1", "-0", "+0", "01", "001", "0000001", "1.0", "1e0", "0x1", "1_0", "a", "１", "\xff", "61", "100", "999999", "1000000",
		"4294967297", "9223372036854775807", "9223372036854775808", "18446744073709551617", "-9223372036854775807", "1" + strings.Repeat("0", 64), strings.Repeat("0", 64) + "1",
	} {
		for i := range 9 {
			words := strings.Split(nine+"1", " ")
			words[i] = word
			lines = append(lines, strings.Join(words, " "))
		}
	}
	for _, s := range lines {
		got, ok := impl.ReadRules(s)
		wantNoRules(t, "ReadRules("+strconv.Quote(s)+")", got, ok)
	}
}

// TestReadRulesDefinition compares ReadRules with its definition for all lines
// that differ from a valid one in one byte.
func TestReadRulesDefinition(t *testing.T) {
	check := func(s string) {
		want, there := rulesWritten(s)
		got, ok := impl.ReadRules(s)
		wantRules(t, "ReadRules("+strconv.Quote(s)+")", got, ok, want, there)
		if ok && impl.RulesLine(got) != s {
			t.Errorf("ReadRules(%q) gives rules with the line %q", s, impl.RulesLine(got))
		}
	}
	for _, line := range []string{mixedLine, impl.RulesLine(leastRules()), "3 6 4 5 3 2 2 2 4 10"} {
		for i := range len(line) {
			check(line[:i])
			check(line[i:])
			check(line[:i] + line[i+1:])
			for c := range 256 {
				b := string([]byte{byte(c)})
				check(line[:i] + b + line[i+1:])
				check(line[:i] + b + line[i:])
				check(line + b)
			}
		}
	}
}

func TestSameRules(t *testing.T) {
	for _, base := range []impl.Rules{mixedRules(), leastRules(), {}, {Seats: []int{0, -5, math.MaxInt, math.MinInt, 7}, Tiers: -1}} {
		wantSame(t, base, withSeats(base, slices.Clone(base.Seats)...), true)
		for _, f := range ruleFields() {
			for _, n := range []int{1, -1, 256, 1 << 32, math.MinInt} {
				wantSame(t, base, withField(base, f, *f.of(&base)+n), false)
			}
		}
		for i := range base.Seats {
			other := slices.Clone(base.Seats)
			other[i]++
			wantSame(t, base, withSeats(base, other...), false)
			wantSame(t, base, withSeats(base, base.Seats[:i]...), false)
		}
		wantSame(t, base, withSeats(base, append(slices.Clone(base.Seats), 0)...), false)
		wantSame(t, base, withSeats(base, append(slices.Clone(base.Seats), 1)...), false)
		wantSame(t, withSeats(base), withSeats(base, []int{}...), true)
		wantSame(t, withSeats(base), withSeats(base, make([]int, 0, 3)...), true)
	}
	wantSame(t, withSeats(mixedRules(), 1, 2), withSeats(mixedRules(), 2, 1), false)
	all := append(okRules(), badRules()...)
	for i := range all {
		for _, k := range []int{i, (i + 1) % len(all), (i * 7) % len(all), (i * 31) % len(all)} {
			wantSame(t, all[i], all[k], rulesEqual(all[i], all[k]))
		}
	}
}

func wantSame(t *testing.T, a, b impl.Rules, want bool) {
	t.Helper()
	if impl.SameRules(a, b) != want || impl.SameRules(b, a) != want {
		t.Errorf("SameRules(%v, %v) is %v in one order and %v in the other, want %v", a, b, impl.SameRules(a, b), impl.SameRules(b, a), want)
	}
}

// roomyNums returns a copy of list with numbers in its unused capacity, and the
// whole memory behind it.
func roomyNums(list []int) ([]int, []int) {
	all := slices.Concat(list, []int{1, 1, 1, 1, 77, 78})
	return all[:len(list)], all
}

// TestRulesArgumentsAreKept covers the unused capacity too, which would make
// some of the lists valid.
func TestRulesArgumentsAreKept(t *testing.T) {
	for _, r := range append(okRules(), badRules()...) {
		seats, all := roomyNums(r.Seats)
		was := slices.Clone(all)
		room := withSeats(r, seats...)
		if impl.RulesOk(room) != impl.RulesOk(r) || impl.Level(room, 0, 3) != impl.Level(r, 0, 3) || impl.TicksTo(room, 0, 0) != impl.TicksTo(r, 0, 0) {
			t.Errorf("the capacity of Seats of %v is read", r)
		}
		if !slices.Equal(impl.RulesNums(room), impl.RulesNums(r)) || impl.RulesLine(room) != impl.RulesLine(r) || !impl.SameRules(room, r) {
			t.Errorf("the capacity of Seats of %v is read", r)
		}
		if !slices.Equal(all, was) || !rulesEqual(room, r) {
			t.Errorf("Seats %v became %v", was, all)
		}
		list, all := roomyNums(numsBehind(r))
		was = slices.Clone(all)
		got, ok := impl.RulesIn(list)
		want, there := rulesBehind(numsBehind(r))
		wantRules(t, "RulesIn with a capacity", got, ok, want, there)
		if !slices.Equal(all, was) {
			t.Errorf("the list %v became %v", was, all)
		}
	}
}

// spoilNums overwrites a list and its unused capacity.
func spoilNums(list []int) {
	list = list[:cap(list)]
	for i := range list {
		list[i] = -99
	}
}

func TestRulesResultsShareNoMemory(t *testing.T) {
	for _, r := range okRules() {
		seats, all := roomyNums(r.Seats)
		was := slices.Clone(all)
		room := withSeats(r, seats...)
		one, two := impl.RulesNums(room), impl.RulesNums(room)
		spoilNums(one)
		if !slices.Equal(all, was) || !slices.Equal(two, numsBehind(r)) {
			t.Errorf("RulesNums(%v) shares memory", r)
		}
		list, all := roomyNums(numsBehind(r))
		was = slices.Clone(all)
		a, _ := impl.RulesIn(list)
		b, _ := impl.RulesIn(list)
		spoilNums(a.Seats)
		if !slices.Equal(all, was) || !rulesEqual(b, r) {
			t.Errorf("RulesIn(%v) shares memory", list)
		}
		spoilNums(list)
		if !rulesEqual(b, r) {
			t.Errorf("RulesIn of the numbers of %v keeps its argument", r)
		}
		line := lineBehind(numsBehind(r))
		a, _ = impl.ReadRules(line)
		b, _ = impl.ReadRules(line)
		spoilNums(a.Seats)
		if !rulesEqual(b, r) {
			t.Errorf("the results of ReadRules(%q) share memory", line)
		}
	}
}
