package tests

import (
	"math"
	"strings"
	"testing"

	"loop.example/g00494/impl"
)

// fill returns n bytes that differ from their neighbours, so that a part taken
// from the wrong place is seen.
func fill(n int) string {
	b := make([]byte, n)
	for i := range b {
		b[i] = byte(i*7 + i/256)
	}
	return string(b)
}

func okAreas() []impl.Area {
	list := []impl.Area{{}}
	for _, n := range []int{1, 2, 7, 300, impl.MaxArea - 1, impl.MaxArea} {
		for _, safe := range []int{0, 1, n / 2, n - 1, n} {
			list = append(list, impl.Area{Data: fill(n), Safe: safe})
		}
	}
	return list
}

func badAreas() []impl.Area {
	list := []impl.Area{
		{Safe: 1},
		{Safe: -1},
		{Safe: math.MaxInt},
		{Safe: math.MinInt},
		{Data: "ab", Safe: 3},
		{Data: "ab", Safe: -1},
		{Data: "ab", Safe: -2},
		{Data: "ab", Safe: math.MaxInt},
		{Data: "ab", Safe: math.MinInt},
		{Data: fill(impl.MaxArea), Safe: impl.MaxArea + 1},
		{Data: fill(impl.MaxArea), Safe: -1},
	}
	for _, n := range []int{impl.MaxArea + 1, 2 * impl.MaxArea} {
		for _, safe := range []int{0, 1, impl.MaxArea, n - 1, n} {
			list = append(list, impl.Area{Data: fill(n), Safe: safe})
		}
	}
	return list
}

// allSafe does without Sync, which is itself under test.
func allSafe(data string) impl.Area { return impl.Area{Data: data, Safe: len(data)} }

// brief shortens an area for a message.
func brief(a impl.Area) impl.Area {
	if len(a.Data) > 20 {
		a.Data = a.Data[:20] + "..."
	}
	return a
}

func wantArea(t *testing.T, what string, got impl.Area, ok bool, want impl.Area) {
	t.Helper()
	if got != want || !ok {
		t.Errorf("%s = %#v (%d bytes), %v, want %#v (%d bytes), true", what, brief(got), len(got.Data), ok, brief(want), len(want.Data))
	}
}

func wantKept(t *testing.T, what string, got impl.Area, ok bool, a impl.Area) {
	t.Helper()
	if got != a || ok {
		t.Errorf("%s = %#v (%d bytes), %v, want the unchanged %#v (%d bytes), false", what, brief(got), len(got.Data), ok, brief(a), len(a.Data))
	}
}

// cuts returns the positions of interest in a.
func cuts(a impl.Area) []int {
	size := len(a.Data)
	var list []int
	for _, n := range []int{0, 1, 2, size / 2, a.Safe - 1, a.Safe, a.Safe + 1, size - 1, size} {
		if n >= 0 && n <= size {
			list = append(list, n)
		}
	}
	return list
}

func badCuts(a impl.Area) []int {
	size := len(a.Data)
	return []int{-1, -2, -size - 1, size + 1, size + 2, impl.MaxArea + 1, math.MaxInt, math.MinInt, math.MinInt + 1}
}

func TestMaxArea(t *testing.T) {
	if impl.MaxArea != 20000 {
		t.Errorf("MaxArea = %d, want 20000", impl.MaxArea)
	}
}

func TestAreaOk(t *testing.T) {
	for _, a := range okAreas() {
		if !impl.AreaOk(a) {
			t.Errorf("AreaOk(%#v) of %d bytes = false, want true", brief(a), len(a.Data))
		}
	}
	for _, a := range badAreas() {
		if impl.AreaOk(a) {
			t.Errorf("AreaOk(%#v) of %d bytes = true, want false", brief(a), len(a.Data))
		}
	}
}

func TestAppend(t *testing.T) {
	for _, c := range []struct {
		a    impl.Area
		more string
		want impl.Area
	}{
		{impl.Area{}, "", impl.Area{}},
		{impl.Area{}, "ab", impl.Area{Data: "ab"}},
		{impl.Area{Data: "ab"}, "cd", impl.Area{Data: "abcd"}},
		{impl.Area{Data: "ab", Safe: 1}, "cd", impl.Area{Data: "abcd", Safe: 1}},
		{impl.Area{Data: "ab", Safe: 2}, "cd", impl.Area{Data: "abcd", Safe: 2}},
		{impl.Area{Data: "ab", Safe: 2}, "", impl.Area{Data: "ab", Safe: 2}},
		{impl.Area{Data: "\x00\xff", Safe: 1}, "\xff\x00", impl.Area{Data: "\x00\xff\xff\x00", Safe: 1}},
	} {
		got, ok := impl.Append(c.a, c.more)
		wantArea(t, "Append", got, ok, c.want)
	}
}

func TestAppendToTheLimit(t *testing.T) {
	for _, a := range okAreas() {
		room := impl.MaxArea - len(a.Data)
		for _, n := range []int{0, 1, room / 2, room - 1, room} {
			if n < 0 || n > room {
				continue
			}
			more := strings.Repeat("m", n)
			got, ok := impl.Append(a, more)
			wantArea(t, "Append", got, ok, impl.Area{Data: a.Data + more, Safe: a.Safe})
		}
		for _, n := range []int{room + 1, room + 2, impl.MaxArea + 1, 2 * impl.MaxArea} {
			got, ok := impl.Append(a, strings.Repeat("m", n))
			wantKept(t, "Append beyond the limit", got, ok, a)
		}
	}
}

func TestAppendToInvalid(t *testing.T) {
	for _, a := range badAreas() {
		// Some of these bytes would make Safe valid in the result.
		for _, more := range []string{"", "m", "mm", strings.Repeat("m", impl.MaxArea)} {
			got, ok := impl.Append(a, more)
			wantKept(t, "Append to an invalid area", got, ok, a)
		}
	}
}

func TestSync(t *testing.T) {
	for _, a := range okAreas() {
		wantArea(t, "Sync", impl.Sync(a), true, allSafe(a.Data))
	}
	for _, a := range badAreas() {
		wantKept(t, "Sync of an invalid area", impl.Sync(a), false, a)
	}
}

func TestShed(t *testing.T) {
	for _, c := range []struct {
		data string
		n    int
		want string
	}{
		{"", 0, ""},
		{"abcd", 0, "abcd"},
		{"abcd", 1, "bcd"},
		{"abcd", 3, "d"},
		{"abcd", 4, ""},
	} {
		got, ok := impl.Shed(allSafe(c.data), c.n)
		wantArea(t, "Shed", got, ok, allSafe(c.want))
	}
	for _, a := range okAreas() {
		full := allSafe(a.Data)
		for _, n := range cuts(a) {
			got, ok := impl.Shed(full, n)
			wantArea(t, "Shed", got, ok, allSafe(a.Data[n:]))
		}
		for _, n := range badCuts(a) {
			got, ok := impl.Shed(full, n)
			wantKept(t, "Shed of too much or too little", got, ok, full)
		}
	}
}

func TestShedKeepsWhatIsNotDurable(t *testing.T) {
	for _, a := range okAreas() {
		if a.Safe == len(a.Data) {
			continue
		}
		for _, n := range append(cuts(a), badCuts(a)...) {
			got, ok := impl.Shed(a, n)
			wantKept(t, "Shed where bytes are not durable", got, ok, a)
		}
	}
}

func TestShedOfInvalid(t *testing.T) {
	for _, a := range badAreas() {
		for _, n := range append(cuts(a), badCuts(a)...) {
			got, ok := impl.Shed(a, n)
			wantKept(t, "Shed of an invalid area", got, ok, a)
		}
	}
}

func TestTrim(t *testing.T) {
	for _, c := range []struct {
		a    impl.Area
		n    int
		want impl.Area
	}{
		{impl.Area{}, 0, impl.Area{}},
		{impl.Area{Data: "abcd", Safe: 2}, 0, impl.Area{}},
		{impl.Area{Data: "abcd", Safe: 2}, 1, impl.Area{Data: "a", Safe: 1}},
		{impl.Area{Data: "abcd", Safe: 2}, 2, impl.Area{Data: "ab", Safe: 2}},
		{impl.Area{Data: "abcd", Safe: 2}, 3, impl.Area{Data: "abc", Safe: 2}},
		{impl.Area{Data: "abcd", Safe: 2}, 4, impl.Area{Data: "abcd", Safe: 2}},
		{impl.Area{Data: "abcd"}, 3, impl.Area{Data: "abc"}},
		{impl.Area{Data: "abcd", Safe: 4}, 3, impl.Area{Data: "abc", Safe: 3}},
	} {
		got, ok := impl.Trim(c.a, c.n)
		wantArea(t, "Trim", got, ok, c.want)
	}
	for _, a := range okAreas() {
		for _, n := range cuts(a) {
			safe := a.Safe
			if safe > n {
				safe = n
			}
			got, ok := impl.Trim(a, n)
			wantArea(t, "Trim", got, ok, impl.Area{Data: a.Data[:n], Safe: safe})
		}
		for _, n := range badCuts(a) {
			got, ok := impl.Trim(a, n)
			wantKept(t, "Trim to too much or too little", got, ok, a)
		}
	}
}

func TestTrimOfInvalid(t *testing.T) {
	for _, a := range badAreas() {
		for _, n := range append(cuts(a), badCuts(a)...) {
			got, ok := impl.Trim(a, n)
			wantKept(t, "Trim of an invalid area", got, ok, a)
		}
	}
}

func TestDurableBytesAreKept(t *testing.T) {
	check := func(what string, b impl.Area, kept string) {
		t.Helper()
		if !impl.AreaOk(b) || b.Safe < len(kept) || !strings.HasPrefix(b.Data, kept) {
			t.Errorf("%s = %#v (%d bytes), want %d durable bytes kept", what, brief(b), len(b.Data), len(kept))
		}
	}
	for _, a := range okAreas() {
		kept := a.Data[:a.Safe]
		check("Sync", impl.Sync(a), kept)
		for _, more := range []string{"", "m", strings.Repeat("m", impl.MaxArea)} {
			b, _ := impl.Append(a, more)
			check("Append", b, kept)
			check("Sync of Append", impl.Sync(b), b.Data)
		}
		for _, n := range cuts(a) {
			b, _ := impl.Trim(a, n)
			if n < a.Safe {
				check("Trim below Safe", b, kept[:n])
			} else {
				check("Trim", b, kept)
			}
			b, _ = impl.Shed(allSafe(a.Data), n)
			check("Shed", b, a.Data[n:])
		}
	}
}

func TestStoreOk(t *testing.T) {
	good := okAreas()
	for i, a := range good {
		s := impl.Store{Log: a, Even: good[(i+5)%len(good)], Odd: good[(i+11)%len(good)]}
		if !impl.StoreOk(s) {
			t.Errorf("StoreOk of valid areas from number %d = false, want true", i)
		}
	}
	for i, bad := range badAreas() {
		a := good[i%len(good)]
		for k, s := range []impl.Store{
			{Log: bad, Even: a, Odd: a},
			{Log: a, Even: bad, Odd: a},
			{Log: a, Even: a, Odd: bad},
			{Log: bad, Even: bad, Odd: bad},
		} {
			if impl.StoreOk(s) {
				t.Errorf("StoreOk with the invalid area %#v in place %d = true, want false", brief(bad), k)
			}
		}
	}
}

func evenSlots() []int {
	return []int{0, 2, -2, 4, -4, 1000000, -1000000, math.MaxInt - 1, math.MinInt, math.MinInt + 2}
}

func oddSlots() []int {
	return []int{1, -1, 3, -3, 5, -5, 999999, -999999, math.MaxInt, math.MinInt + 1}
}

func TestSlots(t *testing.T) {
	log, even, odd := impl.Area{Data: "log", Safe: 1}, impl.Area{Data: "even", Safe: 2}, impl.Area{Data: "odd", Safe: 3}
	s := impl.Store{Log: log, Even: even, Odd: odd}
	// A slot is replaced whether or not the areas are valid.
	news := append(badAreas(), impl.Area{}, impl.Area{Data: "new", Safe: 2})
	for _, which := range evenSlots() {
		if got := impl.SlotOf(s, which); got != even {
			t.Errorf("SlotOf(%d) = %#v, want the even area", which, got)
		}
		for _, a := range news {
			if got, want := impl.PutSlot(s, which, a), (impl.Store{Log: log, Even: a, Odd: odd}); got != want {
				t.Errorf("PutSlot(%d) of %#v does not replace the even area alone", which, brief(a))
			}
		}
	}
	for _, which := range oddSlots() {
		if got := impl.SlotOf(s, which); got != odd {
			t.Errorf("SlotOf(%d) = %#v, want the odd area", which, got)
		}
		for _, a := range news {
			if got, want := impl.PutSlot(s, which, a), (impl.Store{Log: log, Even: even, Odd: a}); got != want {
				t.Errorf("PutSlot(%d) of %#v does not replace the odd area alone", which, brief(a))
			}
		}
	}
	if want := (impl.Store{Log: log, Even: even, Odd: odd}); s != want {
		t.Errorf("PutSlot changed its argument to %#v", s)
	}
}

func TestSlotsOfInvalidStore(t *testing.T) {
	for _, bad := range badAreas() {
		other := impl.Area{Data: "other", Safe: 9}
		s := impl.Store{Log: bad, Even: bad, Odd: other}
		if impl.SlotOf(s, 0) != bad || impl.SlotOf(s, 1) != other {
			t.Errorf("SlotOf does not give the invalid area %#v", brief(bad))
		}
		if got, want := impl.PutSlot(s, 3, bad), (impl.Store{Log: bad, Even: bad, Odd: bad}); got != want {
			t.Errorf("PutSlot changes more than the odd area of a store with %#v", brief(bad))
		}
		if got, want := impl.PutSlot(s, 2, other), (impl.Store{Log: bad, Even: other, Odd: other}); got != want {
			t.Errorf("PutSlot changes more than the even area of a store with %#v", brief(bad))
		}
	}
}

func TestStoreLen(t *testing.T) {
	for _, c := range []struct{ log, even, odd, safe int }{
		{0, 0, 0, 0},
		{1, 0, 0, 1},
		{0, 20, 0, 0},
		{0, 0, 300, 17},
		{1, 20, 300, 1},
		{impl.MaxArea, impl.MaxArea, impl.MaxArea, impl.MaxArea},
		// The length is that of the content, also where an area is invalid.
		{impl.MaxArea + 1, 2, 3, -1},
		{4, 2 * impl.MaxArea, 5, math.MaxInt},
		{6, 7, impl.MaxArea + 1, math.MinInt},
	} {
		s := impl.Store{
			Log:  impl.Area{Data: fill(c.log), Safe: c.safe},
			Even: impl.Area{Data: fill(c.even), Safe: c.safe},
			Odd:  impl.Area{Data: fill(c.odd), Safe: c.safe},
		}
		if got, want := impl.StoreLen(s), c.log+c.even+c.odd; got != want {
			t.Errorf("StoreLen of %d, %d and %d bytes = %d, want %d", c.log, c.even, c.odd, got, want)
		}
	}
}

// TestAreaArgumentsAreKept calls every function that takes an area and compares
// the area afterwards with what it was built from.
func TestAreaArgumentsAreKept(t *testing.T) {
	for _, a := range append(okAreas(), badAreas()...) {
		data, safe := strings.Clone(a.Data), a.Safe
		s := impl.Store{Log: a, Even: a, Odd: a}
		impl.AreaOk(a)
		impl.Append(a, "more")
		impl.Sync(a)
		impl.Shed(a, 1)
		impl.Shed(allSafe(a.Data), 1)
		impl.Trim(a, 1)
		impl.StoreOk(s)
		impl.SlotOf(s, 1)
		impl.PutSlot(s, 0, impl.Area{Data: "x"})
		impl.PutSlot(s, 1, impl.Area{Data: "y"})
		impl.StoreLen(s)
		want := impl.Area{Data: data, Safe: safe}
		if a != want || s != (impl.Store{Log: want, Even: want, Odd: want}) {
			t.Errorf("the argument %#v was changed to %#v", brief(want), brief(a))
		}
	}
}
