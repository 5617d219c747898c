package tests

import (
	"math"
	"strconv"
	"testing"

	"loop.example/g00494/impl"
)

// ledgerField is one number of a ledger.
type ledgerField struct {
	name string
	of   func(*impl.Ledger) *int
}

func ledgerFields() []ledgerField {
	return []ledgerField{
		{"Total", func(l *impl.Ledger) *int { return &l.Total }},
		{"Free", func(l *impl.Ledger) *int { return &l.Free }},
		{"Held", func(l *impl.Ledger) *int { return &l.Held }},
		{"Sold", func(l *impl.Ledger) *int { return &l.Sold }},
		{"Tied", func(l *impl.Ledger) *int { return &l.Tied }},
	}
}

func withLedgerField(l impl.Ledger, f ledgerField, n int) impl.Ledger {
	*f.of(&l) = n
	return l
}

func ledger(total, free, held, sold, tied int) impl.Ledger {
	return impl.Ledger{Total: total, Free: free, Held: held, Sold: sold, Tied: tied}
}

// seatMove is one of the six moves: its function, how many seats it can move,
// and the ledger after it, written out.
type seatMove struct {
	name  string
	move  func(impl.Ledger, int) (impl.Ledger, bool)
	most  func(impl.Ledger) int
	after func(impl.Ledger, int) impl.Ledger
}

func holdMove() seatMove {
	return seatMove{"SeatsHold", impl.SeatsHold,
		func(l impl.Ledger) int { return l.Free },
		func(l impl.Ledger, n int) impl.Ledger { return ledger(l.Total, l.Free-n, l.Held+n, l.Sold, l.Tied) }}
}

func dropMove() seatMove {
	return seatMove{"SeatsDrop", impl.SeatsDrop,
		func(l impl.Ledger) int { return l.Held },
		func(l impl.Ledger, n int) impl.Ledger { return ledger(l.Total, l.Free+n, l.Held-n, l.Sold, l.Tied) }}
}

func sellMove() seatMove {
	return seatMove{"SeatsSell", impl.SeatsSell,
		func(l impl.Ledger) int { return l.Held },
		func(l impl.Ledger, n int) impl.Ledger { return ledger(l.Total, l.Free, l.Held-n, l.Sold+n, l.Tied) }}
}

func freeMove() seatMove {
	return seatMove{"SeatsFree", impl.SeatsFree,
		func(l impl.Ledger) int { return l.Sold - l.Tied },
		func(l impl.Ledger, n int) impl.Ledger { return ledger(l.Total, l.Free+n, l.Held, l.Sold-n, l.Tied) }}
}

func tieMove() seatMove {
	return seatMove{"SeatsTie", impl.SeatsTie,
		func(l impl.Ledger) int { return l.Sold - l.Tied },
		func(l impl.Ledger, n int) impl.Ledger { return ledger(l.Total, l.Free, l.Held, l.Sold, l.Tied+n) }}
}

func untieMove() seatMove {
	return seatMove{"SeatsUntie", impl.SeatsUntie,
		func(l impl.Ledger) int { return l.Tied },
		func(l impl.Ledger, n int) impl.Ledger { return ledger(l.Total, l.Free, l.Held, l.Sold, l.Tied-n) }}
}

func seatMoves() []seatMove {
	return []seatMove{holdMove(), dropMove(), sellMove(), freeMove(), tieMove(), untieMove()}
}

// ledgersOf are all valid ledgers of a total.
func ledgersOf(total int) []impl.Ledger {
	var list []impl.Ledger
	for free := range total + 1 {
		for held := range total - free + 1 {
			sold := total - free - held
			for tied := range sold + 1 {
				list = append(list, ledger(total, free, held, sold, tied))
			}
		}
	}
	return list
}

// someLedgers are valid ones: all of the small totals, and those of the
// greatest total and of the one before it that are at a limit or in the middle.
func someLedgers() []impl.Ledger {
	var list []impl.Ledger
	for total := 1; total <= 6; total++ {
		list = append(list, ledgersOf(total)...)
	}
	for _, total := range []int{59, 60} {
		for _, l := range [][4]int{
			{0, 0, total, 0}, {0, 0, total, 1}, {0, 0, total, 30}, {0, 0, total, total - 1}, {0, 0, total, total},
			{0, total, 0, 0}, {total, 0, 0, 0}, {1, total - 1, 0, 0}, {total - 1, 1, 0, 0}, {total - 1, 0, 1, 0}, {total - 1, 0, 1, 1},
			{0, total - 1, 1, 1}, {1, 0, total - 1, total - 1}, {0, 1, total - 1, 0}, {20, 15, total - 35, 7}, {10, 11, total - 21, total - 21},
		} {
			list = append(list, ledger(total, l[0], l[1], l[2], l[3]))
		}
	}
	return list
}

// overflowing have no negative number, but their sum overflows to the total.
func overflowing() []impl.Ledger {
	var list []impl.Ledger
	for _, total := range []int{1, 8, 60} {
		for _, k := range []int{0, 1, 5} {
			a, b, c := math.MaxInt-k, math.MaxInt, total+2+k
			for _, tied := range []int{0, 1, total} {
				list = append(list,
					ledger(total, a, b, c, tied), ledger(total, b, a, c, tied), ledger(total, a, c, b, tied),
					ledger(total, c, a, b, tied), ledger(total, b, c, a, tied), ledger(total, c, b, a, tied))
			}
		}
	}
	return list
}

// badLedgers are not LedgerOk, most of them for one reason.
func badLedgers() []impl.Ledger {
	list := append(overflowing(),
		impl.Ledger{}, impl.Ledger{Total: -1},
		ledger(0, 1, -1, 0, 0), ledger(-1, 0, 0, -1, 0), ledger(-1, -1, 0, 0, 0), ledger(-8, -4, -2, -2, -2),
		ledger(61, 0, 0, 61, 0), ledger(61, 61, 0, 0, 0), ledger(61, 20, 20, 21, 5), ledger(1000000, 0, 0, 1000000, 0),
		ledger(8, -1, 4, 5, 0), ledger(8, 4, -1, 5, 0), ledger(8, 4, 5, -1, 0), ledger(8, 4, 5, -1, -1),
		ledger(8, -1, 0, 9, 0), ledger(8, 9, -1, 0, 0), ledger(8, 0, 9, -1, -1), ledger(60, -60, 60, 60, 0),
		ledger(8, math.MinInt, math.MinInt, 8, 0), ledger(8, 8, math.MinInt, math.MinInt, math.MinInt), ledger(8, math.MinInt, 8, math.MinInt, math.MinInt),
		ledger(8, math.MinInt, math.MaxInt, 9, 0), ledger(8, math.MaxInt, math.MinInt, 9, 3), ledger(8, 9, math.MaxInt, math.MinInt, math.MinInt),
		ledger(math.MaxInt, 0, 0, math.MaxInt, 0), ledger(math.MinInt, 0, 0, math.MinInt, 0), ledger(math.MinInt, math.MaxInt, 1, 0, 0))
	for _, l := range []impl.Ledger{ledger(1, 0, 0, 1, 0), ledger(8, 3, 1, 4, 2), ledger(60, 20, 10, 30, 30), ledger(60, 60, 0, 0, 0)} {
		for _, f := range ledgerFields() {
			n := *f.of(&l)
			for _, n := range append(extremes(), -1, -n-1, 61, 1<<32+n, -1<<32+n) {
				list = append(list, withLedgerField(l, f, n))
			}
		}
	}
	return list
}

// ledgerValid is the document's LedgerOk, in an order in which nothing overflows.
func ledgerValid(l impl.Ledger) bool {
	if l.Total < 1 || l.Total > 60 || l.Free < 0 || l.Held < 0 || l.Sold < 0 || l.Tied < 0 {
		return false
	}
	return l.Free <= 60 && l.Held <= 60 && l.Free+l.Held == l.Total-l.Sold && l.Tied <= l.Sold
}

func wantLedger(t *testing.T, l impl.Ledger, want bool) {
	t.Helper()
	if got := impl.LedgerOk(l); got != want {
		t.Errorf("LedgerOk(%+v) = %v, want %v", l, got, want)
	}
}

func wantMoved(t *testing.T, m seatMove, l impl.Ledger, n int, want impl.Ledger) {
	t.Helper()
	if got, ok := m.move(l, n); !ok || got != want {
		t.Errorf("%s(%+v, %d) = %+v, %v, want %+v, true", m.name, l, n, got, ok, want)
	}
}

func wantNotMoved(t *testing.T, m seatMove, l impl.Ledger, n int) {
	t.Helper()
	if got, ok := m.move(l, n); ok || got != l {
		t.Errorf("%s(%+v, %d) = %+v, %v, want the ledger and false", m.name, l, n, got, ok)
	}
}

// wantMove is the result by the number of seats that can be moved.
func wantMove(t *testing.T, m seatMove, l impl.Ledger, n int) {
	t.Helper()
	if n >= 0 && n <= m.most(l) {
		wantMoved(t, m, l, n, m.after(l, n))
	} else {
		wantNotMoved(t, m, l, n)
	}
}

func wantLine(t *testing.T, l impl.Ledger, want string) {
	t.Helper()
	if got := impl.LedgerLine(l); got != want {
		t.Errorf("LedgerLine(%+v) = %q, want %q", l, got, want)
	}
}

// wantAddedUp is the promise: free, held and sold seats add up to the total.
func wantAddedUp(t *testing.T, l impl.Ledger, total int) {
	t.Helper()
	if l.Total != total || l.Free < 0 || l.Held < 0 || l.Sold < 0 || l.Free+l.Held+l.Sold != total {
		t.Errorf("%+v does not add up to %d", l, total)
	}
	if l.Tied < 0 || l.Tied > l.Sold {
		t.Errorf("%+v has Tied outside 0 to Sold", l)
	}
	wantLedger(t, l, true)
}

func TestLedgerOkTotal(t *testing.T) {
	for _, c := range []struct {
		total int
		want  bool
	}{{math.MinInt, false}, {-60, false}, {-1, false}, {0, false}, {1, true}, {2, true}, {59, true}, {60, true}, {61, false}, {math.MaxInt, false}} {
		wantLedger(t, ledger(c.total, 0, 0, c.total, 0), c.want)
		wantLedger(t, ledger(c.total, 0, c.total, 0, 0), c.want)
		wantLedger(t, ledger(c.total, c.total, 0, 0, 0), c.want)
		wantLedger(t, ledger(c.total, c.total-1, 0, 1, 1), c.want)
	}
}

// TestLedgerOkNegative has counts of which one is negative though they add up.
func TestLedgerOkNegative(t *testing.T) {
	for total := 1; total <= 60; total++ {
		for _, n := range []int{-1, -2, -total, -60, math.MinInt + 60} {
			wantLedger(t, ledger(total, n, 0, total-n, 0), false)
			wantLedger(t, ledger(total, n, total-n, 0, 0), false)
			wantLedger(t, ledger(total, 0, n, total-n, 0), false)
			wantLedger(t, ledger(total, total-n, n, 0, 0), false)
			wantLedger(t, ledger(total, 0, total-n, n, 0), false)
			wantLedger(t, ledger(total, total-n, 0, n, n), false)
		}
	}
}

func TestLedgerOkSum(t *testing.T) {
	for _, l := range someLedgers() {
		wantLedger(t, l, true)
		for _, f := range ledgerFields()[:4] {
			n := *f.of(&l)
			wantLedger(t, withLedgerField(l, f, n-1), false)
			wantLedger(t, withLedgerField(l, f, n+1), false)
		}
	}
}

func TestLedgerOkTied(t *testing.T) {
	for _, l := range someLedgers() {
		for _, c := range []struct {
			tied int
			want bool
		}{{math.MinInt, false}, {-1, false}, {0, true}, {l.Sold / 2, true}, {l.Sold, true}, {l.Sold + 1, false}, {l.Sold + 2, false}, {61, false}, {math.MaxInt, false}} {
			l.Tied = c.tied
			wantLedger(t, l, c.want)
		}
	}
}

func TestLedgerOkInvalid(t *testing.T) {
	for _, l := range badLedgers() {
		wantLedger(t, l, false)
	}
}

// TestLedgerOkDefinition compares with the definition around small totals, and
// with every choice of far numbers.
func TestLedgerOkDefinition(t *testing.T) {
	near := []int{-2, -1, 0, 1, 2, 3, 4, 5}
	far := append(extremes(), -1, 0, 1, 8, 60, 61, 1<<62, -1<<62)
	for _, nums := range [][]int{near, far} {
		for _, total := range nums {
			for _, free := range nums {
				for _, held := range nums {
					for _, sold := range nums {
						for _, tied := range nums {
							l := ledger(total, free, held, sold, tied)
							wantLedger(t, l, ledgerValid(l))
						}
					}
				}
			}
		}
	}
}

func TestLedgerNew(t *testing.T) {
	for total := -70; total <= 130; total++ {
		got, ok := impl.LedgerNew(total)
		if total < 1 || total > 60 {
			if ok || got != (impl.Ledger{}) {
				t.Errorf("LedgerNew(%d) = %+v, %v, want the zero Ledger and false", total, got, ok)
			}
		} else if !ok || got != ledger(total, 0, 0, total, 0) {
			t.Errorf("LedgerNew(%d) = %+v, %v, want all seats sold and true", total, got, ok)
		}
	}
	for _, total := range append(extremes(), 1000000, 1<<32, 1<<32+8, -1<<32+8, -1000000) {
		if got, ok := impl.LedgerNew(total); ok || got != (impl.Ledger{}) {
			t.Errorf("LedgerNew(%d) = %+v, %v, want the zero Ledger and false", total, got, ok)
		}
	}
}

func TestSeatMoves(t *testing.T) {
	l := ledger(10, 4, 1, 5, 2)
	wantMoved(t, holdMove(), l, 3, ledger(10, 1, 4, 5, 2))
	wantMoved(t, dropMove(), l, 1, ledger(10, 5, 0, 5, 2))
	wantMoved(t, sellMove(), l, 1, ledger(10, 4, 0, 6, 2))
	wantMoved(t, freeMove(), l, 3, ledger(10, 7, 1, 2, 2))
	wantMoved(t, tieMove(), l, 3, ledger(10, 4, 1, 5, 5))
	wantMoved(t, untieMove(), l, 2, ledger(10, 4, 1, 5, 0))
	wantNotMoved(t, holdMove(), l, 5)
	wantNotMoved(t, dropMove(), l, 2)
	wantNotMoved(t, sellMove(), l, 2)
	wantNotMoved(t, freeMove(), l, 4)
	wantNotMoved(t, tieMove(), l, 4)
	wantNotMoved(t, untieMove(), l, 3)
	for _, m := range seatMoves() {
		wantMoved(t, m, l, 0, l)
		wantNotMoved(t, m, l, -1)
	}
}

// TestSeatMovesByNumber moves none, one, all there are and one more, and
// numbers that no ledger has.
func TestSeatMovesByNumber(t *testing.T) {
	for _, l := range someLedgers() {
		for _, m := range seatMoves() {
			most := m.most(l)
			wantMoved(t, m, l, 0, l)
			wantMoved(t, m, l, most, m.after(l, most))
			wantNotMoved(t, m, l, most+1)
			for _, n := range append(extremes(), -1, -2, -most, -most-1, -60, 1, 2, most-1, most+2, 60, 61, 1<<32, 1<<32+1, -1<<32+1, 1<<62, -1<<62) {
				wantMove(t, m, l, n)
			}
		}
	}
}

// TestSeatMovesDefinition visits every ledger of some totals with every number
// of seats.
func TestSeatMovesDefinition(t *testing.T) {
	for _, total := range []int{1, 2, 3, 7, 12, 20} {
		for _, l := range ledgersOf(total) {
			for _, m := range seatMoves() {
				for n := -1; n <= total+1; n++ {
					wantMove(t, m, l, n)
				}
			}
		}
	}
}

func TestSeatMovesOfInvalid(t *testing.T) {
	for _, l := range badLedgers() {
		for _, m := range seatMoves() {
			for _, n := range append(extremes(), -8, -1, 0, 1, 2, 3, 8, 60, 61, l.Free, l.Held, l.Sold, l.Tied) {
				wantNotMoved(t, m, l, n)
			}
		}
	}
}

// TestSeatMovesIntoValid has ledgers that are not valid but that a move would
// make valid: the move is rejected all the same.
func TestSeatMovesIntoValid(t *testing.T) {
	for _, m := range seatMoves() {
		for _, l := range ledgersOf(5) {
			for n := 1; n <= 6; n++ {
				before := m.after(l, -n)
				if m.after(before, n) != l {
					t.Fatalf("%s: %+v does not become %+v", m.name, before, l)
				}
				if !ledgerValid(before) {
					wantNotMoved(t, m, before, n)
				}
			}
		}
	}
}

// TestTiedSeatsAreNotFreed frees as many sold seats as are not tied, and one
// more.
func TestTiedSeatsAreNotFreed(t *testing.T) {
	for total := 1; total <= 60; total++ {
		for tied := range total + 1 {
			l, ok := impl.LedgerNew(total)
			l, tie := impl.SeatsTie(l, tied)
			if !ok || !tie || l != ledger(total, 0, 0, total, tied) {
				t.Fatalf("%d of %d tied: %+v, %v, %v", tied, total, l, ok, tie)
			}
			wantNotMoved(t, freeMove(), l, total-tied+1)
			wantNotMoved(t, freeMove(), l, total+1)
			wantMoved(t, freeMove(), l, total-tied, ledger(total, total-tied, 0, tied, tied))
			l, _ = impl.SeatsFree(l, total-tied)
			wantNotMoved(t, freeMove(), l, 1)
			if tied > 0 {
				wantMoved(t, untieMove(), l, 1, ledger(total, total-tied, 0, tied, tied-1))
				l, _ = impl.SeatsUntie(l, 1)
				wantMoved(t, freeMove(), l, 1, ledger(total, total-tied+1, 0, tied-1, tied-1))
				wantNotMoved(t, freeMove(), l, 2)
			}
		}
	}
}

func TestTieToTheLimits(t *testing.T) {
	for total := 1; total <= 60; total++ {
		l, _ := impl.LedgerNew(total)
		wantNotMoved(t, untieMove(), l, 1)
		wantNotMoved(t, tieMove(), l, total+1)
		wantMoved(t, tieMove(), l, total, ledger(total, 0, 0, total, total))
		for n := range total {
			wantMoved(t, tieMove(), l, 1, ledger(total, 0, 0, total, n+1))
			l, _ = impl.SeatsTie(l, 1)
		}
		wantNotMoved(t, tieMove(), l, 1)
		wantMoved(t, tieMove(), l, 0, l)
		wantNotMoved(t, untieMove(), l, total+1)
		wantMoved(t, untieMove(), l, total, ledger(total, 0, 0, total, 0))
		for n := range total {
			wantMoved(t, untieMove(), l, 1, ledger(total, 0, 0, total, total-n-1))
			l, _ = impl.SeatsUntie(l, 1)
		}
		wantNotMoved(t, untieMove(), l, 1)
		wantMoved(t, untieMove(), l, 0, l)
	}
}

// TestTiedIsKept sells, drops, holds and frees beside tied seats; seats that
// are sold become tied only by SeatsTie.
func TestTiedIsKept(t *testing.T) {
	for tied := range 5 {
		l := ledger(12, 3, 4, 5, tied)
		for n := range 5 {
			wantMoved(t, sellMove(), l, n, ledger(12, 3, 4-n, 5+n, tied))
			wantMoved(t, dropMove(), l, n, ledger(12, 3+n, 4-n, 5, tied))
			sold, _ := impl.SeatsSell(l, n)
			wantMoved(t, freeMove(), sold, 5+n-tied, ledger(12, 8+n-tied, 4-n, tied, tied))
			wantNotMoved(t, freeMove(), sold, 6+n-tied)
			wantMoved(t, tieMove(), sold, 5+n-tied, ledger(12, 3, 4-n, 5+n, 5+n))
			wantNotMoved(t, tieMove(), sold, 6+n-tied)
		}
		wantMoved(t, holdMove(), l, 3, ledger(12, 0, 7, 5, tied))
		wantMoved(t, freeMove(), l, 5-tied, ledger(12, 8-tied, 4, tied, tied))
	}
	wantNotMoved(t, tieMove(), ledger(12, 3, 9, 0, 0), 1)
	wantNotMoved(t, tieMove(), ledger(12, 12, 0, 0, 0), 1)
	wantNotMoved(t, freeMove(), ledger(12, 3, 9, 0, 0), 1)
}

// TestSeatsAddUp visits whatever a sequence of moves can reach from a new
// ledger: exactly the valid ledgers of its total.
func TestSeatsAddUp(t *testing.T) {
	for total := 1; total <= 8; total++ {
		l, ok := impl.LedgerNew(total)
		if !ok {
			t.Fatalf("LedgerNew(%d) = %+v, false", total, l)
		}
		seen := map[impl.Ledger]bool{l: true}
		left := []impl.Ledger{l}
		for len(left) > 0 && len(seen) < 10000 {
			l, left = left[0], left[1:]
			wantAddedUp(t, l, total)
			for _, m := range seatMoves() {
				for n := -1; n <= total+1; n++ {
					if next, _ := m.move(l, n); !seen[next] {
						seen[next] = true
						left = append(left, next)
					}
				}
			}
		}
		if all := ledgersOf(total); len(seen) != len(all) {
			t.Errorf("%d ledgers of %d seats are reached, want %d", len(seen), total, len(all))
		}
	}
}

// TestLongSequencesAddUp makes moves of mixed numbers, some of which are
// negative or too great.
func TestLongSequencesAddUp(t *testing.T) {
	for _, total := range []int{1, 2, 9, 10, 31, 59, 60} {
		l, _ := impl.LedgerNew(total)
		step, made := 7, 0
		for range 20000 {
			step = (step*1105 + 12345) % 1048576
			m := seatMoves()[step/16%6]
			n := step/128%(m.most(l)+3) - 1
			wantMove(t, m, l, n)
			next, ok := m.move(l, n)
			if ok {
				made++
			}
			l = next
			wantAddedUp(t, l, total)
		}
		if made < 5000 {
			t.Errorf("only %d moves of %d seats were made", made, total)
		}
	}
}

// TestMovesBack moves seats and then the same number back.
func TestMovesBack(t *testing.T) {
	for _, pair := range [][2]seatMove{{holdMove(), dropMove()}, {dropMove(), holdMove()}, {tieMove(), untieMove()}, {untieMove(), tieMove()}} {
		for _, l := range someLedgers() {
			for n := range pair[0].most(l) + 1 {
				there, ok := pair[0].move(l, n)
				if !ok {
					t.Errorf("%s(%+v, %d) failed", pair[0].name, l, n)
				}
				wantMoved(t, pair[1], there, n, l)
			}
		}
	}
}

// TestMovesInParts moves a number of seats at once and one by one.
func TestMovesInParts(t *testing.T) {
	for _, m := range seatMoves() {
		for _, l := range someLedgers() {
			one := l
			for n := range m.most(l) {
				one, _ = m.move(one, 1)
				wantMoved(t, m, l, n+1, one)
			}
			wantNotMoved(t, m, one, 1)
		}
	}
}

func TestLedgerLine(t *testing.T) {
	for _, c := range []struct {
		l    impl.Ledger
		want string
	}{
		{ledger(1, 0, 0, 1, 0), "0/0/1/0"},
		{ledger(8, 0, 0, 8, 0), "0/0/8/0"},
		{ledger(60, 0, 0, 60, 0), "0/0/60/0"},
		{ledger(8, 1, 2, 5, 4), "1/2/5/4"},
		{ledger(19, 9, 1, 9, 9), "9/1/9/9"},
		{ledger(20, 10, 1, 9, 8), "10/1/9/8"},
		{ledger(20, 1, 10, 9, 0), "1/10/9/0"},
		{ledger(20, 2, 3, 15, 7), "2/3/15/7"},
		{ledger(20, 2, 3, 15, 10), "2/3/15/10"},
		{ledger(60, 10, 20, 30, 15), "10/20/30/15"},
		{ledger(60, 11, 12, 37, 36), "11/12/37/36"},
		{ledger(60, 60, 0, 0, 0), "60/0/0/0"},
		{ledger(60, 0, 60, 0, 0), "0/60/0/0"},
		{ledger(60, 0, 0, 60, 60), "0/0/60/60"},
	} {
		wantLine(t, c.l, c.want)
	}
	for total := 1; total <= 60; total++ {
		l, _ := impl.LedgerNew(total)
		wantLine(t, l, "0/0/"+strconv.Itoa(total)+"/0")
	}
}

// TestLedgerLineDefinition also has a line of its own for each ledger of a
// total.
func TestLedgerLineDefinition(t *testing.T) {
	for _, total := range []int{1, 5, 11, 30} {
		lines := map[string]bool{}
		for _, l := range ledgersOf(total) {
			line := strconv.Itoa(l.Free) + "/" + strconv.Itoa(l.Held) + "/" + strconv.Itoa(l.Sold) + "/" + strconv.Itoa(l.Tied)
			wantLine(t, l, line)
			if lines[line] {
				t.Errorf("the line %q occurs twice", line)
			}
			lines[line] = true
		}
	}
}

func TestLedgerLineOfInvalid(t *testing.T) {
	for _, l := range badLedgers() {
		wantLine(t, l, "")
	}
}

// TestLedgerArgumentsAreKept calls every function twice on the same ledger: the
// ledger stays as it is, and so do the results.
func TestLedgerArgumentsAreKept(t *testing.T) {
	for _, l := range append(someLedgers(), badLedgers()...) {
		was := l
		ok, line := impl.LedgerOk(l), impl.LedgerLine(l)
		for _, m := range seatMoves() {
			for _, n := range []int{-1, 0, 1, 2, 60} {
				first, made := m.move(l, n)
				again, ok := m.move(l, n)
				if first != again || made != ok {
					t.Errorf("%s(%+v, %d) = %+v, %v and then %+v, %v", m.name, l, n, first, made, again, ok)
				}
			}
		}
		if l != was || impl.LedgerOk(l) != ok || impl.LedgerLine(l) != line {
			t.Errorf("%+v became %+v", was, l)
		}
	}
}
