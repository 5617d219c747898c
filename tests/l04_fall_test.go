package tests

import (
	"math"
	"slices"
	"strings"
	"testing"

	"loop.example/g00494/impl"
)

// keeps returns the numbers of interest for a crash of a.
func keeps(a impl.Area) []int {
	loose := len(a.Data) - a.Safe
	return []int{
		0, 1, loose / 2, loose - 1, loose, loose + 1, loose + 2, len(a.Data), len(a.Data) + 1,
		-1, -2, -a.Safe, -loose - 1, math.MaxInt, math.MaxInt - a.Safe, math.MaxInt - 1, math.MinInt, math.MinInt + 1,
	}
}

// fallenArea takes the bytes that are left one at a time.
func fallenArea(a impl.Area, keep int) impl.Area {
	size := a.Safe
	for size < len(a.Data) && size-a.Safe < keep {
		size++
	}
	return allSafe(a.Data[:size])
}

// places returns stores with a in each of the three areas in turn.
func places(a, other impl.Area) []impl.Store {
	return []impl.Store{
		{Log: a, Even: other, Odd: other},
		{Log: other, Even: a, Odd: other},
		{Log: other, Even: other, Odd: a},
	}
}

// looseStore has a different number of durable and other bytes in each area.
func looseStore() impl.Store {
	return impl.Store{
		Log:  impl.Area{Data: "abcdef", Safe: 2},
		Even: impl.Area{Data: "ghi", Safe: 0},
		Odd:  impl.Area{Data: "jklm", Safe: 3},
	}
}

func durableStore(log, even, odd string) impl.Store {
	return impl.Store{Log: allSafe(log), Even: allSafe(even), Odd: allSafe(odd)}
}

// validStores returns stores that combine the valid areas.
func validStores() []impl.Store {
	good := okAreas()
	list := []impl.Store{{}, looseStore()}
	for i, a := range good {
		list = append(list, impl.Store{Log: a, Even: good[(i+5)%len(good)], Odd: good[(i+11)%len(good)]})
	}
	return list
}

// keepLists returns lists of every length of interest.
func keepLists() [][]int {
	return [][]int{
		nil, {}, {0}, {1}, {-1}, {2, 1}, {-5, 7}, {1, 1, 1}, {0, 0, 0}, {150, 3, 9999},
		{math.MaxInt, math.MinInt, math.MaxInt}, {math.MinInt, math.MaxInt, math.MinInt},
		{math.MaxInt, math.MaxInt, math.MaxInt}, {3, 2, 1, 4}, {0, 0, 0, math.MaxInt, -1},
	}
}

func wantCould(t *testing.T, what string, s, f impl.Store, lost int) {
	t.Helper()
	if !impl.Could(s, f) {
		t.Errorf("%s: Could = false, want true", what)
	}
	if got := impl.Lost(s, f); got != lost {
		t.Errorf("%s: Lost = %d, want %d", what, got, lost)
	}
}

func wantCouldNot(t *testing.T, what string, s, f impl.Store) {
	t.Helper()
	if impl.Could(s, f) {
		t.Errorf("%s: Could = true, want false", what)
	}
	if got := impl.Lost(s, f); got != 0 {
		t.Errorf("%s: Lost = %d, want 0", what, got)
	}
}

func TestLeft(t *testing.T) {
	a := impl.Area{Data: "abcdef", Safe: 2}
	for _, c := range []struct {
		a    impl.Area
		keep int
		want string
	}{
		{a, 0, "ab"},
		{a, 1, "abc"},
		{a, 3, "abcde"},
		{a, 4, "abcdef"},
		{a, 5, "abcdef"},
		{a, -1, "ab"},
		{a, -2, "ab"},
		{a, math.MaxInt, "abcdef"},
		{a, math.MinInt, "ab"},
		{impl.Area{}, 0, ""},
		{impl.Area{}, 1, ""},
		{impl.Area{}, -1, ""},
		{impl.Area{}, math.MaxInt, ""},
		{impl.Area{}, math.MinInt, ""},
		{allSafe("abc"), 0, "abc"},
		{allSafe("abc"), 1, "abc"},
		{allSafe("abc"), -1, "abc"},
		{allSafe("abc"), math.MaxInt, "abc"},
		{allSafe("abc"), math.MinInt, "abc"},
		{impl.Area{Data: "abc"}, 0, ""},
		{impl.Area{Data: "abc"}, 2, "ab"},
		{impl.Area{Data: "abc"}, 3, "abc"},
		{impl.Area{Data: "abc"}, 4, "abc"},
		{impl.Area{Data: "abc"}, -1, ""},
		{impl.Area{Data: "abc"}, math.MaxInt, "abc"},
		{impl.Area{Data: "abc"}, math.MinInt, ""},
	} {
		wantArea(t, "Left", impl.Left(c.a, c.keep), true, allSafe(c.want))
	}
	for _, a := range okAreas() {
		for _, keep := range keeps(a) {
			wantArea(t, "Left", impl.Left(a, keep), true, fallenArea(a, keep))
		}
	}
}

func TestLeftOfInvalid(t *testing.T) {
	for _, a := range badAreas() {
		for _, keep := range keeps(a) {
			wantKept(t, "Left of an invalid area", impl.Left(a, keep), false, a)
		}
	}
}

func TestFallen(t *testing.T) {
	s := looseStore()
	for _, c := range []struct {
		keep []int
		want impl.Store
	}{
		{nil, durableStore("ab", "", "jkl")},
		{[]int{}, durableStore("ab", "", "jkl")},
		{[]int{3}, durableStore("abcde", "", "jkl")},
		{[]int{0, 2}, durableStore("ab", "gh", "jkl")},
		{[]int{1, 2}, durableStore("abc", "gh", "jkl")},
		{[]int{0, 0, 0}, durableStore("ab", "", "jkl")},
		{[]int{0, 0, 1}, durableStore("ab", "", "jklm")},
		{[]int{2, 1, 1}, durableStore("abcd", "g", "jklm")},
		{[]int{4, 3, 1}, durableStore("abcdef", "ghi", "jklm")},
		{[]int{5, 4, 2}, durableStore("abcdef", "ghi", "jklm")},
		{[]int{-1, -1, -1}, durableStore("ab", "", "jkl")},
		{[]int{-1, 7, -1}, durableStore("ab", "ghi", "jkl")},
		{[]int{math.MaxInt, math.MinInt, math.MaxInt}, durableStore("abcdef", "", "jklm")},
		{[]int{1, 1, 0, 9}, durableStore("abc", "g", "jkl")},
		{[]int{0, 0, 0, 1, 1, 1}, durableStore("ab", "", "jkl")},
	} {
		if got := impl.Fallen(s, c.keep); got != c.want {
			t.Errorf("Fallen(%#v) = %#v, want %#v", c.keep, got, c.want)
		}
	}
}

// TestFallenStoresAreDurable is P4.
func TestFallenStoresAreDurable(t *testing.T) {
	for i, s := range validStores() {
		for _, keep := range keepLists() {
			f := impl.Fallen(s, keep)
			if !impl.Calm(f) || !impl.StoreOk(f) {
				t.Errorf("Fallen(store %d, %d) is not calm and valid", i, keep)
			}
			for _, again := range keepLists() {
				if impl.Fallen(f, again) != f {
					t.Errorf("a second crash that keeps %d changes Fallen(store %d, %d)", again, i, keep)
				}
			}
			wantCould(t, "a crash", s, f, impl.StoreLen(s)-impl.StoreLen(f))
			wantCould(t, "a second crash", f, f, 0)
		}
	}
}

func TestFallenWithInvalid(t *testing.T) {
	loose := impl.Area{Data: "abcd", Safe: 1}
	for _, bad := range badAreas() {
		for i, s := range places(bad, loose) {
			want := places(bad, allSafe("abc"))[i]
			got := impl.Fallen(s, []int{2, 2, 2})
			if got != want {
				t.Errorf("Fallen with the invalid area %#v in place %d does not keep it and let the others fall", brief(bad), i)
			}
			wantCould(t, "a crash with an invalid area", s, got, 2)
		}
		s := impl.Store{Log: bad, Even: bad, Odd: bad}
		for _, keep := range keepLists() {
			if impl.Fallen(s, keep) != s {
				t.Errorf("Fallen changes a store of the invalid areas %#v", brief(bad))
			}
		}
		wantCould(t, "a crash of invalid areas", s, s, 0)
	}
}

func TestCould(t *testing.T) {
	s := looseStore()
	for _, c := range []struct {
		f    impl.Store
		lost int
	}{
		{durableStore("ab", "", "jkl"), 8},
		{durableStore("abc", "", "jkl"), 7},
		{durableStore("ab", "ghi", "jkl"), 5},
		{durableStore("ab", "", "jklm"), 7},
		{durableStore("abcde", "g", "jklm"), 3},
		{durableStore("abcdef", "ghi", "jklm"), 0},
	} {
		wantCould(t, "a crash", s, c.f, c.lost)
	}
	wantCould(t, "the empty store", impl.Store{}, impl.Store{}, 0)
}

// TestCouldIsExact compares Could with the search for a list of keeps, for all
// small areas in one place.
func TestCouldIsExact(t *testing.T) {
	var all []impl.Area
	for _, data := range []string{"", "a", "b", "ab", "ba", "abc", "abd"} {
		for safe := -1; safe <= len(data)+1; safe++ {
			all = append(all, impl.Area{Data: data, Safe: safe})
		}
	}
	for _, a := range all {
		for _, b := range all {
			want := a == b && (a.Safe < 0 || a.Safe > len(a.Data))
			if a.Safe >= 0 && a.Safe <= len(a.Data) {
				for keep := 0; keep <= len(a.Data)-a.Safe; keep++ {
					want = want || b == fallenArea(a, keep)
				}
			}
			for i, s := range places(a, allSafe("x")) {
				f := places(b, allSafe("x"))[i]
				if want {
					wantCould(t, "small areas", s, f, len(a.Data)-len(b.Data))
				} else {
					wantCouldNot(t, "small areas", s, f)
				}
			}
		}
	}
}

func TestCouldNot(t *testing.T) {
	other := impl.Area{Data: "other", Safe: 2}
	rest := allSafe("othe")
	a := impl.Area{Data: "abcdef", Safe: 2}
	for _, c := range []struct {
		what string
		b    impl.Area
	}{
		{"a changed durable byte", allSafe("xbcd")},
		{"a changed byte that was not durable", allSafe("abxd")},
		{"a changed last byte", allSafe("abcx")},
		{"bytes in another order", allSafe("abdc")},
		{"bytes from the end", allSafe("abef")},
		{"missing durable bytes", allSafe("a")},
		{"no bytes", allSafe("")},
		{"a missing first byte", allSafe("bcdef")},
		{"more bytes", allSafe("abcdefg")},
		{"more bytes than the limit", allSafe("abcdef" + fill(impl.MaxArea))},
		{"the area itself", a},
		{"bytes that are not durable", impl.Area{Data: "abcd", Safe: 2}},
		{"one byte that is not durable", impl.Area{Data: "abcd", Safe: 3}},
		{"no durable bytes", impl.Area{Data: "abcd"}},
		{"a Safe that is too great", impl.Area{Data: "abcd", Safe: 5}},
		{"a negative Safe", impl.Area{Data: "abcd", Safe: -1}},
		{"the greatest Safe", impl.Area{Data: "abcd", Safe: math.MaxInt}},
		{"the least Safe", impl.Area{Data: "abcd", Safe: math.MinInt}},
	} {
		for i, s := range places(a, other) {
			wantCouldNot(t, c.what, s, places(c.b, rest)[i])
		}
	}
	for i, s := range places(a, other) {
		wantCould(t, "the same areas without a change", s, places(allSafe("abcd"), rest)[i], 4)
	}
}

func TestCouldNotWithInvalid(t *testing.T) {
	for _, bad := range badAreas() {
		safe := impl.Area{Data: bad.Data, Safe: bad.Safe ^ 1}
		longer := impl.Area{Data: bad.Data + "x", Safe: bad.Safe}
		shorter := allSafe(bad.Data[:len(bad.Data)/2])
		for i, s := range places(bad, impl.Area{}) {
			wantCould(t, "the same invalid area", s, s, 0)
			for _, b := range []impl.Area{safe, longer, shorter, {}} {
				wantCouldNot(t, "another area for an invalid one", s, places(b, impl.Area{})[i])
			}
			wantCouldNot(t, "an invalid area for a valid one", places(impl.Area{}, impl.Area{})[i], s)
		}
	}
}

func TestCalm(t *testing.T) {
	for _, a := range append(okAreas(), badAreas()...) {
		want := a.Safe == len(a.Data)
		for i, s := range places(a, allSafe("abc")) {
			if got := impl.Calm(s); got != want {
				t.Errorf("Calm with %#v (%d bytes) in place %d = %v, want %v", brief(a), len(a.Data), i, got, want)
			}
		}
	}
	if !impl.Calm(impl.Store{}) || !impl.Calm(durableStore("a", "", "bc")) || impl.Calm(looseStore()) {
		t.Error("Calm is wrong for the empty store, a durable one or one with bytes that are not durable")
	}
	// The areas are compared one by one: the totals agree here.
	mixed := impl.Store{Log: impl.Area{Data: "ab", Safe: 1}, Even: impl.Area{Data: "ab", Safe: 3}}
	if impl.Calm(mixed) {
		t.Error("Calm = true where Safe is too small in one area and too great in another")
	}
}

// TestFallArgumentsAreKept covers the unused capacity of the list of keeps too.
func TestFallArgumentsAreKept(t *testing.T) {
	for _, s := range append(validStores(), places(impl.Area{Data: "ab", Safe: 3}, impl.Area{Data: "ab"})...) {
		for _, list := range keepLists() {
			room := append(slices.Clone(list), 71, 72, 73, 74)
			was := slices.Clone(room)
			log, even, odd := strings.Clone(s.Log.Data), strings.Clone(s.Even.Data), strings.Clone(s.Odd.Data)
			want := impl.Store{
				Log:  impl.Area{Data: log, Safe: s.Log.Safe},
				Even: impl.Area{Data: even, Safe: s.Even.Safe},
				Odd:  impl.Area{Data: odd, Safe: s.Odd.Safe},
			}
			f := impl.Fallen(s, room[:len(list)])
			if f != impl.Fallen(s, list) {
				t.Errorf("Fallen reads beyond the length of %d", list)
			}
			impl.Left(s.Log, 1)
			impl.Could(s, f)
			impl.Calm(s)
			impl.Lost(s, f)
			if s != want || !slices.Equal(room, was) {
				t.Errorf("the store or the list %d was changed to %d", was, room)
			}
		}
	}
}
