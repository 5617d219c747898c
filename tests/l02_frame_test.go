package tests

import (
	"encoding/binary"
	"hash/crc32"
	"math"
	"slices"
	"strings"
	"testing"

	"loop.example/g00494/impl"
)

// handRest builds the part of a frame behind its length from any bytes for the
// sequence number, so that a test can have a checksum that is right over
// content that is wrong.
func handRest(seq []byte, body string) string {
	signed := slices.Concat(seq, []byte(body))
	return string(binary.BigEndian.AppendUint32(nil, crc32.ChecksumIEEE(signed))) + string(signed)
}

func varint(n int) []byte { return binary.AppendUvarint(nil, uint64(n)) }

// withLength puts the length in front of the rest of a frame.
func withLength(rest string) string { return string(varint(len(rest))) + rest }

func handFrame(seq int, body string) string { return withLength(handRest(varint(seq), body)) }

func edgeSeqs() []int {
	return []int{1, 2, 127, 128, 129, 16383, 16384, 16385, impl.MaxSeq - 1, impl.MaxSeq}
}

func badSeqs() []int {
	return []int{0, -1, -2, -128, impl.MaxSeq + 1, impl.MaxSeq + 2, 1 << 21, numLimit, numLimit + 1, 1<<32 + 1, math.MaxInt, math.MinInt, math.MinInt + 1}
}

func edgeBodies() []string {
	list := []string{"a", "ab", "\x00", "\xff", "\x00\xff\x00", "\x80", "\x01", "join 7\n", "äö"}
	for _, n := range []int{2, 3, impl.MaxBody - 1, impl.MaxBody} {
		list = append(list, strings.Repeat("b", n), strings.Repeat("\x00", n), strings.Repeat("\xff", n))
	}
	return list
}

func badBodies() []string {
	return []string{"", strings.Repeat("b", impl.MaxBody+1), strings.Repeat("\x00", impl.MaxBody+1), strings.Repeat("b", 118), strings.Repeat("b", 127), strings.Repeat("b", 20000)}
}

// journal returns a text of frames of many lengths and these frames.
func journal() (string, []impl.Frame) {
	text := ""
	var list []impl.Frame
	for i, body := range edgeBodies() {
		seq := edgeSeqs()[i%len(edgeSeqs())]
		text += handFrame(seq, body)
		list = append(list, impl.Frame{Seq: seq, Body: body, Next: len(text)})
	}
	return text, list
}

func wantFrame(t *testing.T, s string, at int, want impl.Frame) {
	t.Helper()
	if f, ok := impl.FrameAt(s, at); f != want || !ok {
		t.Errorf("FrameAt(%q, %d) = %#v, %v; want %#v, true", s, at, f, ok, want)
	}
}

func wantNoFrame(t *testing.T, s string, at int) {
	t.Helper()
	if f, ok := impl.FrameAt(s, at); f != (impl.Frame{}) || ok {
		t.Errorf("FrameAt(%q, %d) = %#v, %v; want the zero Frame and false", s, at, f, ok)
	}
}

// wantFrames checks everything that is read from the journal s.
func wantFrames(t *testing.T, s string, want []impl.Frame) {
	t.Helper()
	if got := impl.Frames(s); !slices.Equal(got, want) {
		t.Errorf("Frames(%q) = %#v, want %#v", s, got, want)
	}
	whole := 0
	if len(want) > 0 {
		whole = want[len(want)-1].Next
	}
	if got := impl.Whole(s); got != whole {
		t.Errorf("Whole(%q) = %d, want %d", s, got, whole)
	}
	if got := impl.Torn(s); got != (len(s) > whole) {
		t.Errorf("Torn(%q) = %v with %d of %d bytes read", s, got, whole, len(s))
	}
}

func TestFrameLimits(t *testing.T) {
	if impl.MaxBody != 60 || impl.MaxSeq != 1000000 {
		t.Error("limits", impl.MaxBody, impl.MaxSeq)
	}
}

func TestFrameOfBytes(t *testing.T) {
	for _, c := range []struct {
		seq  int
		body string
		want string
	}{
		{1, "ab", "\x07\x21\xd9\xe9\xb7\x01\x61\x62"},
		{300, "\x00", "\x07\x1d\x15\x1f\x94\xac\x02\x00"},
		{impl.MaxSeq, "\xff", "\x08\xf6\xdf\x25\x75\xc0\x84\x3d\xff"},
	} {
		if got := impl.FrameOf(c.seq, c.body); got != c.want {
			t.Errorf("FrameOf(%d, %q) = %q, want %q", c.seq, c.body, got, c.want)
		}
	}
}

func TestFrameRoundTrip(t *testing.T) {
	for _, seq := range edgeSeqs() {
		for _, body := range edgeBodies() {
			s := impl.FrameOf(seq, body)
			if want := handFrame(seq, body); s != want {
				t.Fatalf("FrameOf(%d, %q) = %q, want %q", seq, body, s, want)
			}
			wantFrame(t, s, 0, impl.Frame{Seq: seq, Body: body, Next: len(s)})
			for _, pad := range []string{"\x00", "\x80", "\xff\xff", "no frame", s[:len(s)-1], s[1:]} {
				wantFrame(t, pad+s, len(pad), impl.Frame{Seq: seq, Body: body, Next: len(pad) + len(s)})
				wantFrame(t, pad+s+pad, len(pad), impl.Frame{Seq: seq, Body: body, Next: len(pad) + len(s)})
			}
		}
	}
}

func TestEverySeqIsRead(t *testing.T) {
	for seq := 1; seq <= impl.MaxSeq; seq += 97 {
		s := impl.FrameOf(seq, "b")
		wantFrame(t, s, 0, impl.Frame{Seq: seq, Body: "b", Next: len(s)})
	}
}

func TestFrameOfRejects(t *testing.T) {
	check := func(seq int, body string) {
		if got := impl.FrameOf(seq, body); got != "" {
			t.Errorf("FrameOf(%d, %q) = %q, want nothing", seq, body, got)
		}
	}
	for _, seq := range badSeqs() {
		for _, body := range append(edgeBodies(), badBodies()...) {
			check(seq, body)
		}
	}
	for _, body := range badBodies() {
		for _, seq := range edgeSeqs() {
			check(seq, body)
		}
	}
}

func TestFrameAtOffsets(t *testing.T) {
	one := handFrame(1, "ab")
	for _, s := range []string{"", "\x00", one, one + one, one + "\x07"} {
		for _, at := range []int{-1, -2, -len(s), -len(s) - 1, len(s), len(s) + 1, len(s) + 100, 1 << 31, 1 << 32, math.MaxInt - 68, math.MaxInt - 1, math.MaxInt, math.MinInt, math.MinInt + 1} {
			if at < 0 || at >= len(s) {
				wantNoFrame(t, s, at)
			}
		}
	}
	text, list := journal()
	starts := map[int]impl.Frame{}
	from := 0
	for _, f := range list {
		starts[from] = f
		from = f.Next
	}
	for at := range len(text) {
		if f, there := starts[at]; there {
			wantFrame(t, text, at, f)
		} else {
			wantNoFrame(t, text, at)
		}
	}
}

func TestJournalCutAnywhere(t *testing.T) {
	text, list := journal()
	whole := 0
	for size := range len(text) + 1 {
		if whole < len(list) && list[whole].Next <= size {
			whole++
		}
		wantFrames(t, text[:size], list[:whole])
	}
	if whole != len(list) {
		t.Errorf("%d of %d frames", whole, len(list))
	}
}

func TestFrameCutAnywhere(t *testing.T) {
	for _, seq := range edgeSeqs() {
		for _, body := range edgeBodies() {
			s := impl.FrameOf(seq, body)
			for size := range len(s) {
				wantNoFrame(t, s[:size], 0)
				wantNoFrame(t, "x"+s[:size], 1)
			}
		}
	}
}

func TestJournalOfNoFrames(t *testing.T) {
	wantFrames(t, "", nil)
	one := handFrame(1, "ab")
	for _, s := range []string{"\x00", "\x01", "\x80", "x", "\xff\xff\xff\xff\x07", strings.Repeat("\x00", 100), strings.Repeat("\xff", 100), one[:7], one[1:], "\x00" + one, "x" + one + one} {
		wantFrames(t, s, nil)
	}
}

// TestLongJournal has as many bytes as an area can hold.
func TestLongJournal(t *testing.T) {
	text := ""
	var list []impl.Frame
	for seq := 1; len(text) < 19900; seq++ {
		body := strings.Repeat("b", 1+seq%impl.MaxBody)
		text += impl.FrameOf(seq, body)
		list = append(list, impl.Frame{Seq: seq, Body: body, Next: len(text)})
	}
	wantFrames(t, text, list)
	wantFrames(t, text+text[:4], list)
	wantFrames(t, text[:len(text)-1], list[:len(list)-1])
}

func TestFramesAreNotOrdered(t *testing.T) {
	s, list := "", []impl.Frame(nil)
	for _, seq := range []int{5, 5, 2, impl.MaxSeq, 1} {
		s += handFrame(seq, "b")
		list = append(list, impl.Frame{Seq: seq, Body: "b", Next: len(s)})
	}
	wantFrames(t, s, list)
}

func TestChangedByte(t *testing.T) {
	first, last := handFrame(6, "before"), handFrame(8, "after")
	for _, body := range []string{"b", "\x00\xff", "seven", strings.Repeat("s", impl.MaxBody)} {
		for _, seq := range []int{1, 7, 200, 20000, impl.MaxSeq} {
			mid := handFrame(seq, body)
			for i := range len(mid) {
				for x := 1; x < 256; x++ {
					b := []byte(mid)
					b[i] ^= byte(x)
					wantNoFrame(t, string(b), 0)
					wantNoFrame(t, string(b)+last, 0)
					if x&(x-1) == 0 {
						wantFrames(t, first+string(b)+last, []impl.Frame{{Seq: 6, Body: "before", Next: len(first)}})
					}
				}
			}
		}
	}
}

// TestChecksumBytes swaps the bytes of the checksum, which would go unnoticed
// if they were only summed up or read in another order.
func TestChecksumBytes(t *testing.T) {
	s := handFrame(1, "ab")
	sum := s[1:5]
	for _, order := range []string{sum[2:] + sum[:2], sum[1:] + sum[:1], string([]byte{sum[3], sum[2], sum[1], sum[0]}), "\x00\x00\x00\x00", "\xff\xff\xff\xff"} {
		wantNoFrame(t, s[:1]+order+s[5:], 0)
	}
	for _, over := range []string{"ab", "\x07\x01ab", "\x01", ""} {
		sum := binary.BigEndian.AppendUint32(nil, crc32.ChecksumIEEE([]byte(over)))
		wantNoFrame(t, s[:1]+string(sum)+s[5:], 0)
	}
}

func TestLengthBeyondTheEnd(t *testing.T) {
	rest := handRest(varint(1), "ab")
	for _, n := range []int{len(rest) + 1, len(rest) + 2, 67, 68, 127, 128, 300, numLimit - 1, numLimit, numLimit + 1, 1 << 32, 1<<32 + len(rest), math.MaxInt - 5, math.MaxInt} {
		wantNoFrame(t, string(varint(n))+rest, 0)
		wantNoFrame(t, "x"+string(varint(n))+rest, 1)
		wantFrames(t, string(varint(n))+rest, nil)
		before := handFrame(9, "c")
		wantFrames(t, before+string(varint(n))+rest, []impl.Frame{{Seq: 9, Body: "c", Next: len(before)}})
	}
	for _, n := range []uint64{1 << 63, 1<<63 + 7, math.MaxUint64, math.MaxUint64 - 6} {
		wantNoFrame(t, string(binary.AppendUvarint(nil, n))+rest, 0)
	}
	// The checksum is right for each of these, only the last bytes are missing.
	for _, body := range edgeBodies() {
		s := handFrame(5, body)
		wantNoFrame(t, s[:len(s)-1], 0)
		wantNoFrame(t, string([]byte{s[0] + 1})+s[1:], 0)
	}
}

func TestShorterLength(t *testing.T) {
	rest := handRest(varint(1), "abcdef")
	for n := range len(rest) {
		wantNoFrame(t, string(varint(n))+rest, 0)
	}
}

func TestFrameLongerThanNecessary(t *testing.T) {
	rest := handRest(varint(1), "ab")
	wantFrame(t, "\x07"+rest, 0, impl.Frame{Seq: 1, Body: "ab", Next: 8})
	for _, size := range []string{"\x87\x00", "\x87\x80\x00", "\x87\x80\x80\x80\x00", "\x87\x80\x80\x80\x80\x00", "\x87\x80\x80\x80\x80\x80\x80\x80\x80\x02"} {
		wantNoFrame(t, size+rest, 0)
	}
	for _, seq := range []string{"\x81\x00", "\x81\x80\x00", "\x81\x80\x80\x80\x00", "\x80\x00", "\xac\x82\x00", "\xc0\x84\xbd\x00", "\x80\x80\x80\x80\x80\x01"} {
		wantNoFrame(t, withLength(handRest([]byte(seq), "ab")), 0)
	}
}

// TestFramesOutsideTheLimits has frames with the right checksum that FrameOf
// gives for no arguments.
func TestFramesOutsideTheLimits(t *testing.T) {
	for _, seq := range badSeqs() {
		for _, body := range []string{"b", strings.Repeat("b", impl.MaxBody)} {
			s := handFrame(seq, body)
			wantNoFrame(t, s, 0)
			wantFrames(t, s, nil)
		}
	}
	for _, seq := range []int{1, impl.MaxSeq} {
		for _, body := range badBodies() {
			s := handFrame(seq, body)
			wantNoFrame(t, s, 0)
			wantFrames(t, s, nil)
		}
	}
}

func TestRestTooShort(t *testing.T) {
	for n := range 10 {
		wantNoFrame(t, withLength(strings.Repeat("\x00", n)), 0)
		wantNoFrame(t, withLength(strings.Repeat("\x01", n)), 0)
		wantNoFrame(t, withLength(strings.Repeat("\xff", n)), 0)
	}
	full := handRest(varint(300), "b")
	for n := range len(full) {
		wantNoFrame(t, withLength(full[:n]), 0)
		// What follows the frame does not complete it.
		wantNoFrame(t, withLength(full[:n])+full[n:], 0)
	}
	wantNoFrame(t, withLength(handRest(nil, "")), 0)
	wantNoFrame(t, withLength(handRest(varint(1), "")), 0)
	wantNoFrame(t, withLength(handRest([]byte{129}, "")), 0)
}

func TestAfter(t *testing.T) {
	of := func(seqs ...int) []impl.Frame {
		var list []impl.Frame
		for i, seq := range seqs {
			list = append(list, impl.Frame{Seq: seq, Body: string(rune('a' + i)), Next: 10 * i})
		}
		return list
	}
	pick := func(list []impl.Frame, at ...int) []impl.Frame {
		var out []impl.Frame
		for _, i := range at {
			out = append(out, list[i])
		}
		return out
	}
	for _, c := range []struct {
		seqs []int
		seq  int
		want []int
	}{
		{nil, 0, nil},
		{nil, 7, nil},
		{nil, math.MaxInt, nil},
		{[]int{1}, 0, []int{0}},
		{[]int{1}, 1, nil},
		{[]int{2}, 0, nil},
		{[]int{1, 2, 3}, 0, []int{0, 1, 2}},
		{[]int{1, 2, 3}, 1, []int{1, 2}},
		{[]int{1, 2, 3}, 2, []int{2}},
		{[]int{1, 2, 3}, 3, nil},
		{[]int{1, 2, 3}, 9, nil},
		{[]int{1, 2, 4, 5}, 0, []int{0, 1}},
		{[]int{1, 2, 4, 3}, 0, []int{0, 1}},
		{[]int{3, 1, 2}, 0, nil},
		{[]int{3, 4, 5}, 1, nil},
		{[]int{1, 1, 2, 2, 1, 3, 3}, 0, []int{0, 2, 5}},
		{[]int{4, 5, 2, 5, 6, 1, 7}, 4, []int{1, 4, 6}},
		{[]int{2, 1, 2}, 1, []int{0}},
		{[]int{0, -1, 1, 2}, 0, []int{2, 3}},
		{[]int{0, 1}, -1, []int{0, 1}},
		{[]int{1, 2}, -1, nil},
		{[]int{-2, -1, 0, 1}, -3, []int{0, 1, 2, 3}},
		{[]int{math.MinInt, math.MinInt + 1, math.MinInt + 2}, math.MinInt, []int{1, 2}},
		{[]int{1}, math.MinInt, nil},
		{[]int{math.MinInt, 1, math.MaxInt}, math.MaxInt, nil},
		{[]int{math.MaxInt - 1, math.MaxInt, math.MinInt, math.MaxInt, 1}, math.MaxInt - 2, []int{0, 1}},
		{[]int{impl.MaxSeq, impl.MaxSeq + 1}, impl.MaxSeq - 1, []int{0, 1}},
	} {
		list := of(c.seqs...)
		if got := impl.After(list, c.seq); !slices.Equal(got, pick(list, c.want...)) {
			t.Errorf("After %d of %v = %#v, want those at %v", c.seq, c.seqs, got, c.want)
		}
	}
}

func TestAfterOfJournal(t *testing.T) {
	s := ""
	for seq := 1; seq <= 9; seq++ {
		s += impl.FrameOf(seq, "b")
	}
	for size := range len(s) + 1 {
		all := impl.Frames(s[:size])
		for seq := range 11 {
			if got := impl.After(all, seq); !slices.Equal(got, all[min(seq, len(all)):]) {
				t.Errorf("After %d of %d bytes: %v", seq, size, got)
			}
		}
	}
}

func TestFrameArgumentsUnchanged(t *testing.T) {
	for _, seqs := range [][]int{{}, {1}, {1, 2}, {2, 3, 9}, {1, 1, 2}, {5, 1}} {
		for seq := -1; seq <= 4; seq++ {
			all := make([]impl.Frame, len(seqs), len(seqs)+4)
			for i, n := range seqs {
				all[i] = impl.Frame{Seq: n, Body: "b", Next: i}
			}
			behind := append(all, impl.Frame{Seq: 3, Body: "x", Next: 1}, impl.Frame{Seq: 4, Body: "y", Next: 2})
			before := slices.Clone(behind)
			got := impl.After(all, seq)
			if !slices.Equal(behind, before) {
				t.Errorf("After %d changed %v to %v", seq, before, behind)
			}
			want := slices.Clone(got)
			clear(behind)
			if !slices.Equal(got, want) {
				t.Errorf("After %d of %v shares memory with its argument", seq, seqs)
			}
			all = append(all[:0], before...)[:len(seqs)]
			for i := range got[:cap(got)] {
				got[:cap(got)][i] = impl.Frame{Seq: -7}
			}
			if !slices.Equal(all[:len(before)], before) {
				t.Errorf("writing to After %d of %v changed its argument", seq, seqs)
			}
		}
	}
}

func TestFrameResultsShareNoMemory(t *testing.T) {
	text, list := journal()
	first, second := impl.Frames(text), impl.Frames(text)
	for i := range first[:cap(first)] {
		first[:cap(first)][i] = impl.Frame{Seq: -7}
	}
	if !slices.Equal(second, list) || !slices.Equal(impl.Frames(text), list) {
		t.Error("results of Frames share memory")
	}
	one, two := impl.After(list, 0), impl.After(list, 0)
	want := slices.Clone(two)
	for i := range one {
		one[i].Seq = -7
	}
	if !slices.Equal(two, want) {
		t.Error("results of After share memory")
	}
}
