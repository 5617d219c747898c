package tests

import (
	"math"
	"slices"
	"testing"

	"loop.example/g00494/impl"
)

// lastAt is the latest deadline that a wheel takes.
const lastAt = 1000008

func pin(at, id int) impl.Pin { return impl.Pin{At: at, Id: id} }

// pinAhead is the order of the document, written out.
func pinAhead(a, b impl.Pin) bool {
	if a.At == b.At {
		return a.Id < b.Id
	}
	return a.At < b.At
}

// sorted is a sorted copy of pins.
func sorted(list []impl.Pin) []impl.Pin {
	var out []impl.Pin
	for _, p := range list {
		at := len(out)
		for at > 0 && pinAhead(p, out[at-1]) {
			at--
		}
		out = slices.Insert(out, at, p)
	}
	return out
}

// listFor is the list of a wheel for a tick, also for one that is negative.
func listFor(at int) int { return (at%9 + 9) % 9 }

func noPins() impl.Wheel { return impl.Wheel{Spoke: make([][]impl.Pin, 9)} }

// wheel has the pins in their lists and in their order, whether or not they are
// valid.
func wheel(pins ...impl.Pin) impl.Wheel {
	w := noPins()
	for _, p := range sorted(pins) {
		at := listFor(p.At)
		w.Spoke[at] = append(w.Spoke[at], p)
	}
	return w
}

// lists has the lists as they are.
func lists(spoke ...[]impl.Pin) impl.Wheel { return impl.Wheel{Spoke: spoke} }

// withList has nine lists of which all but one are empty.
func withList(at int, list ...impl.Pin) impl.Wheel {
	w := noPins()
	w.Spoke[at] = list
	return w
}

func cloned(w impl.Wheel) impl.Wheel {
	var out impl.Wheel
	for _, list := range w.Spoke {
		out.Spoke = append(out.Spoke, slices.Clone(list))
	}
	return out
}

func wheelEqual(a, b impl.Wheel) bool {
	return slices.EqualFunc(a.Spoke, b.Spoke, slices.Equal[[]impl.Pin])
}

// allPins are the pins of any wheel, list by list.
func allPins(w impl.Wheel) []impl.Pin { return slices.Concat(w.Spoke...) }

// wheelValid is the document's WheelOk, written out.
func wheelValid(w impl.Wheel) bool {
	pins := allPins(w)
	if len(w.Spoke) != 9 || len(pins) > 10 {
		return false
	}
	for i, p := range pins {
		if p.At < 1 || p.At > lastAt || p.Id < 1 || p.Id > 999 {
			return false
		}
		for _, other := range pins[:i] {
			if other.Id == p.Id {
				return false
			}
		}
	}
	for at, list := range w.Spoke {
		for i, p := range list {
			if p.At%9 != at || i > 0 && pinAhead(p, list[i-1]) {
				return false
			}
		}
	}
	return true
}

// searched are the pins up to a tick that a search through all the lists finds.
func searched(w impl.Wheel, now int) []impl.Pin {
	var due []impl.Pin
	for _, p := range allPins(w) {
		if p.At <= now {
			due = append(due, p)
		}
	}
	return sorted(due)
}

// mixer gives numbers from 0 to below n, the same ones for the same seed.
func mixer(seed int) func(n int) int {
	state := seed*7919 + 1
	return func(n int) int {
		state = (state*1103515245 + 12345) % (1 << 31)
		return state >> 8 % n
	}
}

// spreadPins has n pins in as many lists as there are, with Ids that fall.
func spreadPins(n int) []impl.Pin {
	var list []impl.Pin
	for i := range n {
		list = append(list, pin(5+4*i, 900-7*i))
	}
	return list
}

// turnPins has n pins of one list, each a full turn after the one before it.
func turnPins(n int) []impl.Pin {
	var list []impl.Pin
	for i := range n {
		list = append(list, pin(4+9*i, 300+(i*37)%101))
	}
	return list
}

// tickPins has n pins of one tick.
func tickPins(n int) []impl.Pin {
	var list []impl.Pin
	for i := range n {
		list = append(list, pin(17, 40+3*i))
	}
	return list
}

// fivePins has two lists: one with three deadlines of two turns, one with two.
func fivePins() []impl.Pin {
	return []impl.Pin{pin(12, 20), pin(12, 40), pin(21, 30), pin(13, 25), pin(31, 5)}
}

// goodWheels are WheelOk.
func goodWheels() []impl.Wheel {
	list := []impl.Wheel{
		noPins(), lists(make([][]impl.Pin, 9)...), lists(slices.Repeat([][]impl.Pin{{}}, 9)...), {Spoke: [][]impl.Pin{nil, {}, nil, {pin(3, 3)}, {}, nil, {}, nil, {}}},
		wheel(pin(1, 1)), wheel(pin(lastAt, 999)), wheel(pin(1, 999), pin(lastAt, 1)), wheel(pin(9, 500)), wheel(pin(8, 1), pin(9, 2), pin(10, 3)),
		wheel(fivePins()...), wheel(pin(500, 7), pin(lastAt-9, 8), pin(lastAt, 3), pin(lastAt-1, 2)),
	}
	for n := 1; n <= 10; n++ {
		list = append(list, wheel(spreadPins(n)...), wheel(turnPins(n)...), wheel(tickPins(n)...))
	}
	return list
}

// badPins are out of range, most of them in one field.
func badPins() []impl.Pin {
	list := []impl.Pin{{}, pin(-1, -1), pin(0, 1000), pin(lastAt+1, 0), pin(math.MinInt, math.MinInt), pin(math.MaxInt, math.MaxInt)}
	for _, n := range append(extremes(), -1, -2, -9, -18, 0, lastAt+1, lastAt+2, lastAt+9, 1<<32, 1<<32+12, -1<<32+12) {
		list = append(list, pin(n, 1), pin(n, 50), pin(n, 999))
	}
	for _, n := range append(extremes(), -1, -50, 0, 1000, 1001, 1<<32, 1<<32+50, -1<<32+50) {
		list = append(list, pin(1, n), pin(12, n), pin(lastAt, n))
	}
	return list
}

// badWheels are not WheelOk, most of them for one reason.
func badWheels() []impl.Wheel {
	five := fivePins()
	list := []impl.Wheel{
		{}, lists([][]impl.Pin{}...), lists(nil), lists([]impl.Pin{pin(9, 1)}), lists(make([][]impl.Pin, 18)...), lists(make([][]impl.Pin, 1000)...),
		lists(wheel(five...).Spoke[:8]...), lists(slices.Concat(wheel(five...).Spoke, make([][]impl.Pin, 1))...),
		wheel(spreadPins(11)...), wheel(turnPins(11)...), wheel(tickPins(11)...), wheel(spreadPins(40)...), wheel(turnPins(100)...), wheel(slices.Repeat(five, 200)...),
		withList(3, five[1], five[0], five[2]), withList(3, five[0], five[2], five[1]), withList(3, five[2], five[0], five[1]), withList(3, five[2], five[1], five[0]),
		withList(3, five[2], five[0]), withList(3, five[1], five[0]), withList(4, five[4], five[3]),
		wheel(append(five, five[0])...), wheel(append(five, five[4])...), wheel(five[2], five[2]),
		wheel(append(five, pin(12, 30))...), wheel(append(five, pin(3, 20))...), wheel(append(five, pin(3, 25))...), wheel(append(five, pin(1, 5))...), wheel(append(five, pin(8, 5))...),
		withList(2, five[0]), withList(4, five[0]), withList(0, pin(1, 1)), withList(1, pin(9, 1)), withList(8, pin(9, 1)), withList(0, pin(8, 1)),
	}
	for _, p := range badPins() {
		list = append(list, wheel(p), wheel(append(fivePins(), p)...))
		if at := p.At % 9; at >= 0 {
			list = append(list, withList(at, p))
		}
	}
	for n := range 13 {
		if n != 9 {
			list = append(list, lists(make([][]impl.Pin, n)...))
		}
	}
	return list
}

// somePins are around the pins of the wheels, at the limits and beyond.
func somePins() []impl.Pin {
	var list []impl.Pin
	for _, at := range []int{1, 3, 4, 9, 11, 12, 13, 17, 21, 22, 30, 31, 40, lastAt - 9, lastAt - 1, lastAt} {
		for _, id := range []int{1, 5, 19, 20, 21, 30, 40, 41, 300, 900, 999} {
			list = append(list, pin(at, id))
		}
	}
	return append(list, badPins()...)
}

// someTimes are around the pins of a wheel, and far from them.
func someTimes(w impl.Wheel) []int {
	list := append(extremes(), -9, -1, 0, 1, 2, 12, 17, 100, 1000000, lastAt-1, lastAt, lastAt+1, 1<<32)
	for _, p := range allPins(w) {
		list = append(list, p.At-1, p.At, p.At+1, p.At+9)
	}
	return list
}

func wantWheel(t *testing.T, w impl.Wheel, want bool) {
	t.Helper()
	if got := impl.WheelOk(w); got != want {
		t.Errorf("WheelOk(%v) = %v, want %v", w, got, want)
	}
}

func wantWheelPut(t *testing.T, w impl.Wheel, p impl.Pin, want impl.Wheel) {
	t.Helper()
	if got, ok := impl.WheelPut(w, p); !ok || !wheelEqual(got, want) {
		t.Errorf("WheelPut(%v, %v) = %v, %v, want %v, true", w, p, got, ok, want)
	}
}

func wantNoWheelPut(t *testing.T, w impl.Wheel, p impl.Pin) {
	t.Helper()
	if got, ok := impl.WheelPut(w, p); ok || !wheelEqual(got, w) {
		t.Errorf("WheelPut(%v, %v) = %v, %v, want the wheel and false", w, p, got, ok)
	}
}

func wantWheelCut(t *testing.T, w impl.Wheel, p impl.Pin, want impl.Wheel) {
	t.Helper()
	if got, ok := impl.WheelCut(w, p); !ok || !wheelEqual(got, want) {
		t.Errorf("WheelCut(%v, %v) = %v, %v, want %v, true", w, p, got, ok, want)
	}
}

func wantNoWheelCut(t *testing.T, w impl.Wheel, p impl.Pin) {
	t.Helper()
	if got, ok := impl.WheelCut(w, p); ok || !wheelEqual(got, w) {
		t.Errorf("WheelCut(%v, %v) = %v, %v, want the wheel and false", w, p, got, ok)
	}
}

func wantDue(t *testing.T, w impl.Wheel, now int, want ...impl.Pin) {
	t.Helper()
	if got := impl.PinsDue(w, now); !slices.Equal(got, want) {
		t.Errorf("PinsDue(%v, %d) = %v, want %v", w, now, got, want)
	}
}

func wantPins(t *testing.T, w impl.Wheel, want ...impl.Pin) {
	t.Helper()
	if got := impl.PinsOf(w); !slices.Equal(got, want) {
		t.Errorf("PinsOf(%v) = %v, want %v", w, got, want)
	}
}

func wantWheelOf(t *testing.T, list []impl.Pin, want impl.Wheel) {
	t.Helper()
	if got, ok := impl.WheelOf(list); !ok || !wheelEqual(got, want) {
		t.Errorf("WheelOf(%v) = %v, %v, want %v, true", list, got, ok, want)
	}
}

func wantNoWheelOf(t *testing.T, list []impl.Pin) {
	t.Helper()
	if got, ok := impl.WheelOf(list); ok || len(got.Spoke) != 0 {
		t.Errorf("WheelOf(%v) = %v, %v, want the zero Wheel and false", list, got, ok)
	}
}

func wantSameWheel(t *testing.T, a, b impl.Wheel, want bool) {
	t.Helper()
	if got := impl.SameWheel(a, b); got != want {
		t.Errorf("SameWheel(%v, %v) = %v, want %v", a, b, got, want)
	}
	if got := impl.SameWheel(b, a); got != want {
		t.Errorf("SameWheel(%v, %v) = %v, want %v", b, a, got, want)
	}
}

func TestWheelNew(t *testing.T) {
	w := impl.WheelNew()
	if !wheelEqual(w, noPins()) {
		t.Errorf("WheelNew() = %v, want nine empty lists", w)
	}
	wantWheel(t, w, true)
	wantPins(t, w)
	if impl.Spokes != 9 {
		t.Errorf("Spokes = %d, want 9", impl.Spokes)
	}
	for at := range w.Spoke {
		w.Spoke[at] = append(w.Spoke[at], pin(at, 1))
	}
	if again := impl.WheelNew(); !wheelEqual(again, noPins()) {
		t.Errorf("WheelNew() = %v, want nine empty lists again", again)
	}
}

func TestWheelOkLists(t *testing.T) {
	wantWheel(t, impl.Wheel{}, false)
	for n := range 30 {
		wantWheel(t, lists(make([][]impl.Pin, n)...), n == 9)
		wantWheel(t, lists(slices.Repeat([][]impl.Pin{{}}, n)...), n == 9)
	}
	// A wheel with all its pins, of which the last lists are missing or which
	// has lists behind the last, though each pin is where it belongs.
	pins := []impl.Pin{pin(9, 1), pin(10, 2), pin(12, 3)}
	for n := 4; n <= 9; n++ {
		wantWheel(t, lists(wheel(pins...).Spoke[:n]...), n == 9)
	}
	for n := range 10 {
		wantWheel(t, lists(append(wheel(pins...).Spoke, make([][]impl.Pin, n)...)...), n == 0)
	}
	// Ten lists with each pin in the list of its remainder by ten.
	wantWheel(t, lists(nil, nil, nil, []impl.Pin{pin(3, 1)}, nil, nil, nil, nil, nil, []impl.Pin{pin(9, 2)}), false)
}

func TestWheelOkRoom(t *testing.T) {
	for n := range 40 {
		wantWheel(t, wheel(spreadPins(n)...), n <= 10)
		wantWheel(t, wheel(turnPins(n)...), n <= 10)
		wantWheel(t, wheel(tickPins(n)...), n <= 10)
		// Two lists, the first with five pins at most.
		list := turnPins(min(n, 5))
		for i := 5; i < n; i++ {
			list = append(list, pin(8+9*i, 700+i))
		}
		wantWheel(t, wheel(list...), n <= 10)
	}
	wantWheel(t, wheel(turnPins(300)...), false)
}

func TestWheelOkFields(t *testing.T) {
	for _, c := range []struct {
		at   int
		want bool
	}{
		{math.MinInt, false}, {-18, false}, {-10, false}, {-9, false}, {-1, false}, {0, false}, {1, true}, {2, true}, {8, true}, {9, true}, {10, true},
		{999999, true}, {1000000, true}, {1000001, true}, {lastAt - 1, true}, {lastAt, true}, {lastAt + 1, false}, {lastAt + 9, false},
		{1 << 32, false}, {1<<32 + 1, false}, {math.MaxInt - 7, false}, {math.MaxInt, false},
	} {
		for _, id := range []int{1, 500, 999} {
			for at := range 9 {
				wantWheel(t, withList(at, pin(c.at, id)), c.want && at == c.at%9)
			}
			wantWheel(t, wheel(append(fivePins(), pin(c.at, id))...), c.want)
		}
	}
	for _, c := range []struct {
		id   int
		want bool
	}{
		{math.MinInt, false}, {-999, false}, {-1, false}, {0, false}, {1, true}, {2, true}, {998, true}, {999, true}, {1000, false}, {1<<32 + 1, false}, {math.MaxInt, false},
	} {
		for at := 1; at <= 20; at++ {
			wantWheel(t, wheel(pin(at, c.id)), c.want)
			wantWheel(t, wheel(append(fivePins(), pin(at, c.id))...), c.want)
		}
		wantWheel(t, wheel(pin(lastAt, c.id)), c.want)
	}
	for _, p := range badPins() {
		wantWheel(t, wheel(p), false)
		wantWheel(t, wheel(append(fivePins(), p)...), false)
	}
}

func TestWheelOkPlace(t *testing.T) {
	for _, first := range []int{1, 9, 100, lastAt - 20} {
		for i := range 21 {
			for at := range 9 {
				p := pin(first+i, 77)
				wantWheel(t, withList(at, p), at == p.At%9)
				w := wheel(fivePins()...)
				w.Spoke[at] = sorted(append(w.Spoke[at], p))
				wantWheel(t, w, at == p.At%9)
			}
		}
	}
}

func TestWheelOkOrder(t *testing.T) {
	for _, c := range []struct {
		list []impl.Pin
		want bool
	}{
		{[]impl.Pin{pin(12, 20), pin(12, 40), pin(21, 30)}, true},
		{[]impl.Pin{pin(12, 40), pin(12, 20), pin(21, 30)}, false},
		{[]impl.Pin{pin(12, 20), pin(21, 30), pin(12, 40)}, false},
		{[]impl.Pin{pin(21, 30), pin(12, 20), pin(12, 40)}, false},
		{[]impl.Pin{pin(3, 9), pin(12, 8), pin(21, 7)}, true},
		{[]impl.Pin{pin(3, 7), pin(21, 8), pin(12, 9)}, false},
		{[]impl.Pin{pin(12, 7), pin(3, 8), pin(21, 9)}, false},
		{[]impl.Pin{pin(21, 7), pin(12, 8), pin(3, 9)}, false},
		{[]impl.Pin{pin(3, 7), pin(3, 8), pin(3, 9)}, true},
		{[]impl.Pin{pin(3, 7), pin(3, 9), pin(3, 8)}, false},
		{[]impl.Pin{pin(3, 8), pin(3, 7), pin(3, 9)}, false},
		{[]impl.Pin{pin(3, 9), pin(12, 1), pin(12, 2)}, true},
		{[]impl.Pin{pin(3, 9), pin(12, 2), pin(12, 1)}, false},
	} {
		wantWheel(t, withList(3, c.list...), c.want)
	}
	// Two pins of a long list are exchanged.
	for _, pins := range [][]impl.Pin{turnPins(10), tickPins(10)} {
		for i := range pins {
			for j := range i {
				list := slices.Clone(pins)
				list[i], list[j] = list[j], list[i]
				wantWheel(t, withList(pins[0].At%9, list...), false)
			}
		}
	}
}

func TestWheelOkIds(t *testing.T) {
	for _, pins := range [][]impl.Pin{spreadPins(10), turnPins(10), tickPins(10), fivePins()} {
		wantWheel(t, wheel(pins...), true)
		for i := range pins {
			for j := range i {
				// Both exchanged Ids, one Id twice, and one pin twice.
				list := slices.Clone(pins)
				list[i].Id, list[j].Id = list[j].Id, list[i].Id
				wantWheel(t, wheel(list...), true)
				list[i].Id = list[j].Id
				wantWheel(t, wheel(list...), false)
				list[i] = list[j]
				wantWheel(t, wheel(list...), false)
			}
		}
	}
	for at := 1; at <= 30; at++ {
		wantWheel(t, wheel(pin(5, 6), pin(at, 6)), false)
		wantWheel(t, wheel(pin(5, 6), pin(at, 7)), true)
	}
}

func TestWheelOkSamples(t *testing.T) {
	for _, w := range goodWheels() {
		wantWheel(t, w, true)
	}
	for _, w := range badWheels() {
		wantWheel(t, w, false)
	}
}

// TestWheelOkDefinition has wheels that are valid, or nearly so.
func TestWheelOkDefinition(t *testing.T) {
	good := 0
	for seed := range 20000 {
		next := mixer(seed)
		w := lists(make([][]impl.Pin, 9-next(40)/39+next(40)/39)...)
		for range next(13) {
			p := pin(next(30)+next(2), next(30)+next(3))
			if next(60) == 0 {
				p.At = lastAt - 1 + next(3)
			}
			list := &w.Spoke[min(p.At%9, len(w.Spoke)-1)]
			if next(60) == 0 {
				list = &w.Spoke[next(len(w.Spoke))]
			}
			*list = append(*list, p)
			if next(40) > 0 {
				*list = sorted(*list)
			}
		}
		if wheelValid(w) {
			good++
		}
		wantWheel(t, w, wheelValid(w))
	}
	if good < 4000 || good > 16000 {
		t.Errorf("%d of 20000 wheels are valid", good)
	}
}

func TestWheelPut(t *testing.T) {
	w := wheel(fivePins()...)
	for _, c := range []struct {
		p  impl.Pin
		at int
	}{
		// In front of the list 3, within it at each place, and behind it.
		{pin(3, 1), 0}, {pin(3, 999), 0}, {pin(12, 19), 0}, {pin(12, 1), 0},
		{pin(12, 21), 1}, {pin(12, 39), 1}, {pin(12, 41), 2}, {pin(12, 999), 2}, {pin(21, 1), 2}, {pin(21, 29), 2},
		{pin(21, 31), 3}, {pin(21, 999), 3}, {pin(30, 1), 3}, {pin(999993, 1), 3}, {pin(lastAt-6, 2), 3},
		// Around the list 4.
		{pin(4, 1), 0}, {pin(13, 24), 0}, {pin(13, 26), 1}, {pin(22, 1), 1}, {pin(22, 999), 1}, {pin(31, 4), 1}, {pin(31, 6), 2}, {pin(40, 1), 2},
		// Into lists that are empty.
		{pin(9, 1), 0}, {pin(1, 1), 0}, {pin(2, 999), 0}, {pin(14, 7), 0}, {pin(8, 7), 0}, {pin(17, 7), 0}, {pin(lastAt, 999), 0}, {pin(lastAt-1, 1), 0},
	} {
		want := cloned(w)
		at := c.p.At % 9
		want.Spoke[at] = slices.Insert(want.Spoke[at], c.at, c.p)
		wantWheelPut(t, w, c.p, want)
	}
	for at := 1; at <= 40; at++ {
		wantWheelPut(t, impl.WheelNew(), pin(at, at), withList(at%9, pin(at, at)))
	}
}

func TestWheelPutIdThere(t *testing.T) {
	for _, w := range goodWheels() {
		for _, p := range allPins(w) {
			wantNoWheelPut(t, w, p)
			for _, at := range []int{1, 2, 9, p.At - 18, p.At - 9, p.At - 1, p.At + 1, p.At + 9, p.At + 18, 500000, lastAt} {
				wantNoWheelPut(t, w, pin(at, p.Id))
			}
		}
	}
}

func TestWheelPutInvalid(t *testing.T) {
	for _, w := range goodWheels() {
		for _, p := range badPins() {
			wantNoWheelPut(t, w, p)
		}
	}
	for _, w := range badWheels() {
		for _, p := range []impl.Pin{pin(1, 1), pin(5, 77), pin(12, 33), pin(lastAt, 999), pin(12, 20), {}, pin(-9, 5), pin(math.MaxInt, 5), pin(math.MinInt, 5)} {
			wantNoWheelPut(t, w, p)
		}
		for _, p := range allPins(w)[:min(3, len(allPins(w)))] {
			wantNoWheelPut(t, w, p)
		}
	}
}

func TestWheelPutRoom(t *testing.T) {
	for _, pinsOf := range []func(int) []impl.Pin{spreadPins, turnPins, tickPins} {
		for n := range 12 {
			pins := pinsOf(n)
			for _, p := range []impl.Pin{pin(1, 1), pin(4, 999), pin(13, 1), pin(17, 41), pin(lastAt, 999), pin(40, 1)} {
				if n < 10 {
					wantWheelPut(t, wheel(pins...), p, wheel(append(pins, p)...))
				} else {
					wantNoWheelPut(t, wheel(pins...), p)
				}
			}
		}
	}
}

// TestWheelPutDefinition puts each of many pins into each of many wheels.
func TestWheelPutDefinition(t *testing.T) {
	for _, w := range slices.Concat(goodWheels(), badWheels()) {
		for _, p := range somePins() {
			after := wheel(append(allPins(w), p)...)
			if wheelValid(w) && wheelValid(after) {
				wantWheelPut(t, w, p, after)
			} else {
				wantNoWheelPut(t, w, p)
			}
		}
	}
}

func TestWheelCut(t *testing.T) {
	w := wheel(fivePins()...)
	for i, p := range fivePins() {
		wantWheelCut(t, w, p, wheel(slices.Delete(fivePins(), i, i+1)...))
		// The same At and another Id, and the same Id and another At, in the
		// same list and in others.
		for _, other := range []impl.Pin{pin(p.At, 1), pin(p.At, p.Id-1), pin(p.At, p.Id+1), pin(p.At, 0), pin(p.At, -p.Id), pin(p.At, math.MaxInt), pin(p.At, math.MinInt)} {
			wantNoWheelCut(t, w, other)
		}
		for _, at := range []int{0, 1, -p.At, p.At - 9, p.At - 1, p.At + 1, p.At + 9, p.At + 18, p.At + 27, p.At + 9*1000, lastAt, p.At + 1<<32, math.MaxInt, math.MinInt} {
			wantNoWheelCut(t, w, pin(at, p.Id))
		}
		for _, other := range fivePins() {
			if other.At != p.At {
				wantNoWheelCut(t, w, pin(p.At, other.Id))
				wantNoWheelCut(t, w, pin(other.At, p.Id))
			}
		}
		wantNoWheelCut(t, impl.WheelNew(), p)
		wantWheelCut(t, wheel(p), p, impl.WheelNew())
	}
	// An Id of one list at the deadline of another.
	wantNoWheelCut(t, w, pin(12, 25))
	wantNoWheelCut(t, w, pin(13, 20))
	wantNoWheelCut(t, w, pin(14, 20))
	for _, p := range badPins() {
		wantNoWheelCut(t, w, p)
		wantNoWheelCut(t, impl.WheelNew(), p)
	}
}

// TestWheelCutInvalid has wheels with the pin from which nothing is cut, since
// they are not WheelOk.
func TestWheelCutInvalid(t *testing.T) {
	for _, w := range badWheels() {
		for _, p := range append(allPins(w)[:min(12, len(allPins(w)))], pin(12, 20), pin(31, 5), impl.Pin{}, pin(-9, 5), pin(math.MaxInt, 1), pin(math.MinInt, 1)) {
			wantNoWheelCut(t, w, p)
		}
	}
	// A wheel that would be WheelOk without the pin.
	for _, p := range badPins() {
		wantNoWheelCut(t, wheel(append(fivePins(), p)...), p)
		wantNoWheelCut(t, wheel(p), p)
	}
	for _, p := range spreadPins(11) {
		wantNoWheelCut(t, wheel(spreadPins(11)...), p)
	}
	wantNoWheelCut(t, withList(2, pin(12, 20)), pin(12, 20))
	wantNoWheelCut(t, wheel(pin(12, 20), pin(12, 20)), pin(12, 20))
	wantNoWheelCut(t, wheel(pin(12, 20), pin(21, 20)), pin(21, 20))
	wantNoWheelCut(t, withList(3, pin(21, 7), pin(12, 20)), pin(12, 20))
}

func TestWheelCutDefinition(t *testing.T) {
	for _, w := range slices.Concat(goodWheels(), badWheels()) {
		pins := allPins(w)
		for _, p := range append(somePins(), pins[:min(11, len(pins))]...) {
			at := slices.Index(pins, p)
			if wheelValid(w) && at >= 0 {
				wantWheelCut(t, w, p, wheel(slices.Delete(slices.Clone(pins), at, at+1)...))
			} else {
				wantNoWheelCut(t, w, p)
			}
		}
	}
}

// TestPutThenCut is a part of P9: what WheelPut inserted WheelCut takes away
// again, and the wheel is then as it was.
func TestPutThenCut(t *testing.T) {
	made := 0
	for _, w := range goodWheels() {
		for _, p := range somePins() {
			after, ok := impl.WheelPut(w, p)
			if !ok {
				continue
			}
			made++
			wantWheel(t, after, true)
			wantWheelCut(t, after, p, w)
			back, _ := impl.WheelCut(after, p)
			wantSameWheel(t, w, back, true)
			wantSameWheel(t, w, after, false)
			wantNoWheelCut(t, back, p)
			wantWheelPut(t, back, p, after)
		}
	}
	if made < 3000 {
		t.Errorf("only %d pins were put", made)
	}
}

func TestPinsOf(t *testing.T) {
	wantPins(t, impl.WheelNew())
	wantPins(t, wheel(pin(7, 3)), pin(7, 3))
	wantPins(t, wheel(fivePins()...), pin(12, 20), pin(12, 40), pin(13, 25), pin(21, 30), pin(31, 5))
	// Every list has a pin; the earliest is in the last list, and the turns of
	// the lists differ.
	wantPins(t, lists([]impl.Pin{pin(18, 1)}, []impl.Pin{pin(10, 9)}, []impl.Pin{pin(20, 2)}, []impl.Pin{pin(12, 8)}, []impl.Pin{pin(22, 3)}, []impl.Pin{pin(14, 7), pin(32, 500)}, []impl.Pin{pin(24, 4)}, []impl.Pin{pin(16, 6)}, []impl.Pin{pin(8, 5)}),
		pin(8, 5), pin(10, 9), pin(12, 8), pin(14, 7), pin(16, 6), pin(18, 1), pin(20, 2), pin(22, 3), pin(24, 4), pin(32, 500))
	wantPins(t, wheel(pin(lastAt, 1), pin(1, 999)), pin(1, 999), pin(lastAt, 1))
	for _, w := range goodWheels() {
		wantPins(t, w, sorted(allPins(w))...)
	}
	for _, w := range badWheels() {
		if got := impl.PinsOf(w); got != nil {
			t.Errorf("PinsOf(%v) = %v, want nil", w, got)
		}
	}
}

func TestPinsDue(t *testing.T) {
	w := wheel(fivePins()...)
	for _, c := range []struct {
		now  int
		want []impl.Pin
	}{
		{math.MinInt, nil}, {math.MinInt + 1, nil}, {-21, nil}, {-1, nil}, {0, nil}, {1, nil}, {3, nil}, {11, nil},
		{12, []impl.Pin{pin(12, 20), pin(12, 40)}},
		{13, []impl.Pin{pin(12, 20), pin(12, 40), pin(13, 25)}},
		{14, []impl.Pin{pin(12, 20), pin(12, 40), pin(13, 25)}},
		{20, []impl.Pin{pin(12, 20), pin(12, 40), pin(13, 25)}},
		{21, []impl.Pin{pin(12, 20), pin(12, 40), pin(13, 25), pin(21, 30)}},
		{22, []impl.Pin{pin(12, 20), pin(12, 40), pin(13, 25), pin(21, 30)}},
		{30, []impl.Pin{pin(12, 20), pin(12, 40), pin(13, 25), pin(21, 30)}},
		{31, []impl.Pin{pin(12, 20), pin(12, 40), pin(13, 25), pin(21, 30), pin(31, 5)}},
		{1000000, []impl.Pin{pin(12, 20), pin(12, 40), pin(13, 25), pin(21, 30), pin(31, 5)}},
		{math.MaxInt, []impl.Pin{pin(12, 20), pin(12, 40), pin(13, 25), pin(21, 30), pin(31, 5)}},
	} {
		wantDue(t, w, c.now, c.want...)
		wantDue(t, impl.WheelNew(), c.now)
	}
	wantDue(t, wheel(pin(1, 1), pin(lastAt, 2)), 0)
	wantDue(t, wheel(pin(1, 1), pin(lastAt, 2)), 1, pin(1, 1))
	wantDue(t, wheel(pin(1, 1), pin(lastAt, 2)), lastAt-1, pin(1, 1))
	wantDue(t, wheel(pin(1, 1), pin(lastAt, 2)), lastAt, pin(1, 1), pin(lastAt, 2))
}

func TestPinsDueOfSamples(t *testing.T) {
	for _, w := range goodWheels() {
		for _, now := range someTimes(w) {
			wantDue(t, w, now, searched(w, now)...)
		}
	}
	for _, w := range badWheels() {
		for _, now := range append(extremes(), -1, 0, 1, 12, 21, 1000000, lastAt, lastAt+1) {
			if got := impl.PinsDue(w, now); got != nil {
				t.Errorf("PinsDue(%v, %d) = %v, want nil", w, now, got)
			}
		}
	}
}

// TestFullTurnApart has pins of one list whose deadlines differ by a turn or by
// several.
func TestFullTurnApart(t *testing.T) {
	for at := 1; at <= 9; at++ {
		for _, turns := range []int{1, 2, 3, 10, 1000, 111111} {
			early, late := pin(at, 60), pin(at+9*turns, 50)
			for _, list := range [][]impl.Pin{{early, late}, {late, early}} {
				wantWheelOf(t, list, withList(at%9, early, late))
			}
			w := withList(at%9, early, late)
			wantPins(t, w, early, late)
			wantDue(t, w, at-1)
			for _, now := range []int{at, at + 1, at + 8, at + 9*turns - 1} {
				wantDue(t, w, now, early)
			}
			for _, now := range []int{at + 9*turns, at + 9*turns + 1, at + 9*turns + 9} {
				wantDue(t, w, now, early, late)
			}
			wantWheelCut(t, w, early, wheel(late))
			wantWheelCut(t, w, late, wheel(early))
			// The Id of one at the deadline of the other.
			wantNoWheelCut(t, w, pin(early.At, late.Id))
			wantNoWheelCut(t, w, pin(late.At, early.Id))
			wantNoWheelPut(t, w, pin(early.At, late.Id))
			wantNoWheelPut(t, w, pin(late.At, early.Id))
			wantDue(t, wheel(late), late.At-1)
			wantDue(t, wheel(late), late.At-9)
			wantDue(t, wheel(late), late.At, late)
		}
	}
}

func backward(list []impl.Pin) []impl.Pin {
	out := slices.Clone(list)
	slices.Reverse(out)
	return out
}

// TestManyTurns has a list of ten turns, at every tick of them.
func TestManyTurns(t *testing.T) {
	pins := turnPins(10)
	for _, list := range [][]impl.Pin{pins, backward(pins)} {
		w, ok := impl.WheelOf(list)
		if !ok || !slices.Equal(w.Spoke[4], pins) {
			t.Fatalf("WheelOf(%v) = %v, %v", list, w, ok)
		}
		for now := range 100 {
			wantDue(t, w, now, pins[:min((now+5)/9, 10)]...)
		}
		for i, p := range pins {
			wantWheelCut(t, w, p, wheel(slices.Delete(slices.Clone(pins), i, i+1)...))
			left, _ := impl.WheelCut(w, p)
			for now := range 100 {
				wantDue(t, left, now, searched(left, now)...)
			}
			wantWheelPut(t, left, p, w)
			// Moved by a turn, to the deadline of a neighbour.
			wantWheelPut(t, left, pin(p.At+9, p.Id), wheel(append(slices.Delete(slices.Clone(pins), i, i+1), pin(p.At+9, p.Id))...))
		}
	}
}

// randomPins are up to ten valid pins, many of them of one tick or of one list.
func randomPins(seed int) []impl.Pin {
	next := mixer(seed)
	span := []int{3, 12, 40, 200, lastAt}[next(5)]
	var list []impl.Pin
	for range next(11) {
		p := pin(1+next(span), 1+next(999))
		if next(3) == 0 {
			p.At = 1 + next(2) + 9*next(4)
		}
		if !slices.ContainsFunc(list, func(other impl.Pin) bool { return other.Id == p.Id }) {
			list = append(list, p)
		}
	}
	return list
}

// TestDueDeadlinesAreFound is P9: over wheels made of any pins in any order,
// PinsDue returns just the pins that a search finds, earliest first.
func TestDueDeadlinesAreFound(t *testing.T) {
	full := 0
	for seed := range 4000 {
		pins := randomPins(seed)
		w, ok := impl.WheelOf(pins)
		if !ok || !wheelValid(w) || !wheelEqual(w, wheel(pins...)) {
			t.Fatalf("WheelOf(%v) = %v, %v", pins, w, ok)
		}
		if len(pins) == 10 {
			full++
		}
		for _, now := range someTimes(w) {
			due := impl.PinsDue(w, now)
			if !slices.Equal(due, searched(wheel(pins...), now)) {
				t.Errorf("PinsDue(%v, %d) = %v, want %v", w, now, due, searched(w, now))
			}
			if slices.ContainsFunc(due, func(p impl.Pin) bool { return p.At > now }) || !slices.IsSortedFunc(due, func(a, b impl.Pin) int { return a.At - b.At }) {
				t.Errorf("PinsDue(%v, %d) = %v", w, now, due)
			}
		}
		wantPins(t, w, sorted(pins)...)
	}
	if full < 100 {
		t.Errorf("only %d wheels are full", full)
	}
}

// TestWheelOfAnyOrder is a part of P9: the same pins in another order give a
// wheel with the same content.
func TestWheelOfAnyOrder(t *testing.T) {
	for seed := range 1500 {
		pins, next := randomPins(seed), mixer(seed+1)
		w, _ := impl.WheelOf(pins)
		for range 4 {
			for i := range pins {
				j := next(len(pins))
				pins[i], pins[j] = pins[j], pins[i]
			}
			wantWheelOf(t, pins, w)
			other, _ := impl.WheelOf(pins)
			wantSameWheel(t, w, other, true)
			// The pins also go away in any order.
			for i, p := range pins {
				wantWheelCut(t, other, p, wheel(pins[i+1:]...))
				other, _ = impl.WheelCut(other, p)
			}
			wantSameWheel(t, other, impl.WheelNew(), true)
		}
	}
}

// TestKeptWheel puts and cuts pins in long sequences beside a plain list.
func TestKeptWheel(t *testing.T) {
	for seed := range 40 {
		next := mixer(seed)
		w, list := impl.WheelNew(), []impl.Pin(nil)
		for range 400 {
			p := pin(next(60), next(25))
			if len(list) > 0 && next(3) == 0 {
				p = list[next(len(list))]
			}
			if next(2) == 0 {
				after := append(slices.Clone(list), p)
				if wheelValid(wheel(after...)) {
					wantWheelPut(t, w, p, wheel(after...))
					list = after
				} else {
					wantNoWheelPut(t, w, p)
				}
				w, _ = impl.WheelPut(w, p)
			} else {
				if at := slices.Index(list, p); at >= 0 {
					list = slices.Delete(list, at, at+1)
					wantWheelCut(t, w, p, wheel(list...))
				} else {
					wantNoWheelCut(t, w, p)
				}
				w, _ = impl.WheelCut(w, p)
			}
			now := next(70)
			wantPins(t, w, sorted(list)...)
			wantDue(t, w, now, searched(wheel(list...), now)...)
		}
	}
}

func TestWheelOf(t *testing.T) {
	wantWheelOf(t, nil, impl.WheelNew())
	wantWheelOf(t, []impl.Pin{}, impl.WheelNew())
	for at := 1; at <= 30; at++ {
		wantWheelOf(t, []impl.Pin{pin(at, 999)}, withList(at%9, pin(at, 999)))
	}
	wantWheelOf(t, []impl.Pin{pin(lastAt, 1)}, wheel(pin(lastAt, 1)))
	wantWheelOf(t, []impl.Pin{pin(31, 5), pin(21, 30), pin(12, 40), pin(13, 25), pin(12, 20)}, lists(nil, nil, nil, []impl.Pin{pin(12, 20), pin(12, 40), pin(21, 30)}, []impl.Pin{pin(13, 25), pin(31, 5)}, nil, nil, nil, nil))
	for _, pinsOf := range []func(int) []impl.Pin{spreadPins, turnPins, tickPins} {
		for n := range 11 {
			wantWheelOf(t, pinsOf(n), wheel(pinsOf(n)...))
		}
		for n := 11; n <= 14; n++ {
			wantNoWheelOf(t, pinsOf(n))
		}
		wantNoWheelOf(t, pinsOf(2000))
	}
}

func TestWheelOfInvalid(t *testing.T) {
	for n := range 10 {
		for at := range n + 1 {
			for _, p := range badPins() {
				wantNoWheelOf(t, slices.Insert(spreadPins(n), at, p))
			}
			for _, other := range spreadPins(n) {
				wantNoWheelOf(t, slices.Insert(spreadPins(n), at, other))
				wantNoWheelOf(t, slices.Insert(spreadPins(n), at, pin(other.At+1, other.Id)))
				wantNoWheelOf(t, slices.Insert(spreadPins(n), at, pin(other.At+9, other.Id)))
				wantNoWheelOf(t, slices.Insert(spreadPins(n), at, pin(1, other.Id)))
			}
		}
	}
}

func TestSameWheel(t *testing.T) {
	good := goodWheels()
	for i, a := range good {
		for _, b := range good[i:] {
			wantSameWheel(t, a, cloned(b), wheelEqual(a, b))
		}
		for _, b := range badWheels() {
			wantSameWheel(t, a, b, false)
		}
	}
	bad := badWheels()
	for i, a := range bad {
		wantSameWheel(t, a, a, false)
		wantSameWheel(t, a, bad[(i+1)%len(bad)], false)
	}
	wantSameWheel(t, impl.Wheel{}, impl.Wheel{}, false)
	wantSameWheel(t, impl.Wheel{}, impl.WheelNew(), false)
}

// TestSameWheelEmptyLists has nil lists and empty ones.
func TestSameWheelEmptyLists(t *testing.T) {
	full := wheel(fivePins()...)
	empty := cloned(full)
	for at, list := range empty.Spoke {
		if list == nil {
			empty.Spoke[at] = []impl.Pin{}
		}
	}
	wantSameWheel(t, full, empty, true)
	wantSameWheel(t, impl.WheelNew(), lists(slices.Repeat([][]impl.Pin{{}}, 9)...), true)
	wantSameWheel(t, impl.WheelNew(), noPins(), true)
	left := impl.WheelNew()
	for _, p := range fivePins() {
		left, _ = impl.WheelPut(left, p)
	}
	wantSameWheel(t, left, full, true)
	for _, p := range fivePins() {
		left, _ = impl.WheelCut(left, p)
	}
	wantSameWheel(t, left, noPins(), true)
}

// TestSameWheelOnePin has wheels that differ in one At or in one Id, or of which
// one has a pin more.
func TestSameWheelOnePin(t *testing.T) {
	for _, pins := range [][]impl.Pin{fivePins(), spreadPins(10), turnPins(10), tickPins(10)} {
		for i, p := range pins {
			for _, q := range []impl.Pin{pin(p.At+1, p.Id), pin(p.At+9, p.Id), pin(p.At+1800, p.Id), pin(p.At, p.Id+1), pin(p.At, 999), pin(p.At, 1)} {
				other := slices.Clone(pins)
				other[i] = q
				wantSameWheel(t, wheel(pins...), wheel(other...), false)
			}
			wantSameWheel(t, wheel(pins...), wheel(slices.Delete(slices.Clone(pins), i, i+1)...), false)
			wantSameWheel(t, wheel(pins[:i]...), wheel(pins...), false)
		}
	}
}

// roomyPins has valid pins behind the list, in its unused capacity.
func roomyPins(list []impl.Pin) []impl.Pin {
	return slices.Concat(list, []impl.Pin{pin(1, 71), pin(12, 72), pin(21, 73), {}})[:len(list)]
}

// roomyWheel is a copy of w that has unused capacity behind each list, and lists
// behind the last one.
func roomyWheel(w impl.Wheel) impl.Wheel {
	var all [][]impl.Pin
	for _, list := range w.Spoke {
		all = append(all, roomyPins(list))
	}
	all = append(all, roomyPins([]impl.Pin{pin(12, 74)}), nil, roomyPins(nil))
	return impl.Wheel{Spoke: all[:len(w.Spoke)]}
}

// memory is all that can be reached from a wheel, the unused capacity included.
func memory(w impl.Wheel) [][]impl.Pin {
	var all [][]impl.Pin
	for _, list := range w.Spoke[:cap(w.Spoke)] {
		all = append(all, slices.Clone(list[:cap(list)]))
	}
	return all
}

func memoryEqual(a, b [][]impl.Pin) bool {
	return slices.EqualFunc(a, b, slices.Equal[[]impl.Pin])
}

func spoilPins(list []impl.Pin) {
	list = list[:cap(list)]
	for i := range list {
		list[i] = pin(-99, -99)
	}
}

func spoilWheel(w impl.Wheel) {
	all := w.Spoke[:cap(w.Spoke)]
	for at, list := range all {
		spoilPins(list)
		all[at] = []impl.Pin{pin(-98, -98)}
	}
}

// keptPins are those that the tests of the memory put and cut: there, not
// there, out of range, and equal to what is in the unused capacity.
func keptPins(w impl.Wheel) []impl.Pin {
	list := []impl.Pin{pin(1, 1), pin(3, 77), pin(12, 33), pin(12, 72), pin(21, 73), pin(99, 999), pin(lastAt, 700), {}, pin(-9, 3)}
	return append(list, allPins(w)[:min(12, len(allPins(w)))]...)
}

// changedWheels are the wheels that WheelPut and WheelCut return, where they
// change the wheel and where they do not.
func changedWheels(w impl.Wheel) []impl.Wheel {
	var out []impl.Wheel
	for _, p := range keptPins(w) {
		put, _ := impl.WheelPut(w, p)
		cut, _ := impl.WheelCut(w, p)
		out = append(out, put, cut)
	}
	return out
}

// pinLists are the lists that PinsOf and PinsDue return.
func pinLists(w impl.Wheel) [][]impl.Pin {
	out := [][]impl.Pin{impl.PinsOf(w)}
	for _, now := range []int{-1, 0, 5, 12, 17, 40, 1000000, lastAt, math.MaxInt} {
		out = append(out, impl.PinsDue(w, now))
	}
	return out
}

// TestWheelArgumentsAreKept covers the unused capacity of the lists, and of the
// list of lists.
func TestWheelArgumentsAreKept(t *testing.T) {
	for _, w := range slices.Concat(goodWheels(), badWheels()) {
		room := roomyWheel(w)
		was := memory(room)
		if impl.WheelOk(room) != impl.WheelOk(w) || impl.SameWheel(room, w) != impl.WheelOk(w) || impl.SameWheel(w, room) != impl.WheelOk(w) {
			t.Errorf("the capacity of %v is read", was)
		}
		one, two := changedWheels(w), changedWheels(room)
		if !slices.EqualFunc(one, two, wheelEqual) || !memoryEqual(pinLists(w), pinLists(room)) {
			t.Errorf("the capacity of %v is read", was)
		}
		if !memoryEqual(memory(room), was) {
			t.Errorf("%v became %v", was, memory(room))
		}
	}
}

// TestWheelOfOneMemory has a wheel whose lists lie behind each other in one
// array, so that a list has the next one in its capacity.
func TestWheelOfOneMemory(t *testing.T) {
	all := []impl.Pin{pin(9, 1), pin(18, 2), pin(10, 3), pin(12, 4), pin(12, 5), pin(14, 6), pin(16, 7), pin(17, 8)}
	was := slices.Clone(all)
	w := lists(all[0:2], all[2:3], all[3:3], all[3:5], all[5:5], all[5:6], all[6:6], all[6:7], all[7:8])
	wantWheel(t, w, true)
	for at := 1; at <= 30; at++ {
		p := pin(at, 77)
		wantWheelPut(t, w, p, wheel(append(slices.Clone(all), p)...))
	}
	for i, p := range was {
		wantWheelCut(t, w, p, wheel(slices.Delete(slices.Clone(was), i, i+1)...))
	}
	wantPins(t, w, sorted(was)...)
	if !slices.Equal(all, was) {
		t.Errorf("the pins %v became %v", was, all)
	}
	// All lists are the same empty one, with capacity.
	room := roomyPins(nil)
	same := lists(room, room, room, room, room, room, room, room, room)
	wantWheel(t, same, true)
	wantWheelPut(t, same, pin(5, 5), wheel(pin(5, 5)))
	if room = room[:cap(room)]; room[0] != pin(1, 71) {
		t.Errorf("the unused capacity became %v", room)
	}
}

// TestWheelResultsShareNoMemory spoils each result in turn: neither the wheel
// nor the results after it change.
func TestWheelResultsShareNoMemory(t *testing.T) {
	for _, w := range slices.Concat(goodWheels(), badWheels()) {
		room := roomyWheel(w)
		was := memory(room)
		wheels, pins := changedWheels(room), pinLists(room)
		keptWheels, keptLists := changedWheels(w), pinLists(w)
		for i := range pins {
			if !slices.Equal(pins[i], keptLists[i]) {
				t.Errorf("the pins %v became %v", keptLists[i], pins[i])
			}
			spoilPins(pins[i])
		}
		for i := range wheels {
			if !wheelEqual(wheels[i], keptWheels[i]) {
				t.Errorf("the wheel %v became %v", keptWheels[i], wheels[i])
			}
			spoilWheel(wheels[i])
		}
		if !memoryEqual(memory(room), was) {
			t.Errorf("a result shares memory with %v, now %v", was, memory(room))
		}
	}
}

// TestWheelListsShareNoMemory spoils one list after the other of each result:
// the lists behind it do not change.
func TestWheelListsShareNoMemory(t *testing.T) {
	made, _ := impl.WheelOf(fivePins())
	results := []impl.Wheel{impl.WheelNew(), made}
	for _, w := range slices.Concat(goodWheels(), badWheels()) {
		results = append(results, changedWheels(roomyWheel(w))...)
	}
	for _, w := range results {
		kept := cloned(w)
		for at, list := range w.Spoke {
			if !slices.Equal(list, kept.Spoke[at]) {
				t.Errorf("the list %d of %v became %v", at, kept, list)
			}
			spoilPins(list)
		}
	}
}

func TestWheelOfArgumentIsKept(t *testing.T) {
	for _, pins := range [][]impl.Pin{nil, fivePins(), spreadPins(10), spreadPins(11), turnPins(10), tickPins(9), badPins()} {
		list := roomyPins(pins)
		was := slices.Clone(list[:cap(list)])
		w, ok := impl.WheelOf(list)
		other, same := impl.WheelOf(pins)
		if ok != same || !wheelEqual(w, other) {
			t.Errorf("the capacity of %v is read", was)
		}
		spoilWheel(w)
		if !slices.Equal(list[:cap(list)], was) {
			t.Errorf("the pins %v became %v", was, list[:cap(list)])
		}
		if ok {
			wantWheelOf(t, list, wheel(pins...))
		}
		if ok && !wheelEqual(other, wheel(pins...)) {
			t.Errorf("the wheel of %v became %v", pins, other)
		}
	}
}
