package tests

import (
	"encoding/binary"
	"math"
	"slices"
	"strings"
	"testing"

	"loop.example/g00494/impl"
)

// bytesOf is the document's ReqBytes, written out.
func bytesOf(q impl.Req) string {
	if !formRight(q) {
		return ""
	}
	b := varint(q.Kind)
	for _, n := range numsUsed(q) {
		b = append(b, varint(n)...)
	}
	return string(b)
}

// numsUsed are the numbers behind the kind of a request.
func numsUsed(q impl.Req) []int {
	var nums []int
	for _, f := range fieldsUsed(q.Kind) {
		n := *f.of(&q)
		if f.name == "From" {
			n++
		}
		nums = append(nums, n)
	}
	return nums
}

// fieldsUsed are in the order of the document.
func fieldsUsed(kind int) []reqField {
	var used []reqField
	for _, f := range reqFields() {
		if slices.Contains(usedBy(kind), f.name) {
			used = append(used, f)
		}
	}
	return used
}

func fieldsUnused(kind int) []reqField {
	return slices.DeleteFunc(reqFields(), func(f reqField) bool { return slices.Contains(usedBy(kind), f.name) })
}

// readFound decodes number by number, and does not encode anything again.
func readFound(s string) (impl.Req, bool) {
	kind, at, ok := numFound(s, 0)
	if !ok || kind < 1 || kind > 7 {
		return impl.Req{}, false
	}
	q := impl.Req{Kind: kind}
	for _, f := range fieldsUsed(kind) {
		n, next, ok := numFound(s, at)
		if !ok {
			return impl.Req{}, false
		}
		if f.name == "From" {
			n--
		}
		if n > 9999 {
			return impl.Req{}, false
		}
		*f.of(&q), at = n, next
	}
	if at != len(s) {
		return impl.Req{}, false
	}
	return q, true
}

func numFound(s string, at int) (int, int, bool) {
	b := []byte(s[at:])
	n, size := binary.Uvarint(b)
	if size <= 0 || size > 1 && b[size-1] == 0 || n > numLimit {
		return 0, 0, false
	}
	return int(n), at + size, true
}

func wantBytes(t *testing.T, q impl.Req, want string) {
	t.Helper()
	if bytesOf(q) != want {
		t.Errorf("the test means that %+v is %x", q, want)
	}
	if got := impl.ReqBytes(q); got != want {
		t.Errorf("ReqBytes(%+v) = %x, want %x", q, got, want)
	}
}

func wantNoBytes(t *testing.T, q impl.Req) {
	t.Helper()
	wantBytes(t, q, "")
	if got := impl.NoteOf(1, q); got != "" {
		t.Errorf("NoteOf(1, %+v) = %x, want nothing", q, got)
	}
}

func wantRead(t *testing.T, s string, want impl.Req) {
	t.Helper()
	if q, ok := readFound(s); q != want || !ok {
		t.Errorf("the test means that %x is %+v", s, want)
	}
	if q, ok := impl.ReqRead(s); q != want || !ok {
		t.Errorf("ReqRead(%x) = %+v, %v; want %+v, true", s, q, ok, want)
	}
}

func wantNoRead(t *testing.T, s string) {
	t.Helper()
	if q, ok := readFound(s); ok {
		t.Errorf("the test means that %x is no request, and not %+v", s, q)
	}
	if q, ok := impl.ReqRead(s); q != (impl.Req{}) || ok {
		t.Errorf("ReqRead(%x) = %+v, %v; want the zero Req and false", s, q, ok)
	}
}

// wantReadAsFound also checks that what is read gives these bytes. It returns
// whether there is a request.
func wantReadAsFound(t *testing.T, s string) bool {
	t.Helper()
	want, there := readFound(s)
	q, ok := impl.ReqRead(s)
	if q != want || ok != there {
		t.Errorf("ReqRead(%x) = %+v, %v; want %+v, %v", s, q, ok, want, there)
	}
	if back := impl.ReqBytes(q); ok && back != s {
		t.Errorf("ReqRead(%x) = %+v, of which ReqBytes is %x", s, q, back)
	}
	return ok
}

// wantRound checks a request that is ReqOk.
func wantRound(t *testing.T, q impl.Req) {
	t.Helper()
	if !formRight(q) {
		t.Errorf("the test means that %+v is ReqOk", q)
	}
	s := bytesOf(q)
	if got := impl.ReqBytes(q); got != s || got == "" {
		t.Errorf("ReqBytes(%+v) = %x, want %x", q, got, s)
	}
	if back, ok := impl.ReqRead(s); back != q || !ok {
		t.Errorf("ReqRead(%x) = %+v, %v; want %+v, true", s, back, ok, q)
	}
}

// codeRequests has several of each kind, with fields of one and of two bytes.
func codeRequests() []impl.Req {
	return []impl.Req{
		joinReq(300, 129, 1000, 77, 5), tickReq(), cancelReq(300), freeReq(200, 60), acceptReq(7), declineReq(9999), pickReq(3),
		joinReq(1, 2, -1, 3, 4), joinReq(0, 0, -1, 0, 0), joinReq(9995, 9996, 9999, 9997, 9998), joinReq(127, 128, 127, 128, 127),
		cancelReq(0), acceptReq(128), declineReq(1), pickReq(9999), freeReq(0, 0), freeReq(1, 9999), freeReq(128, 2),
	}
}

// gridRequests are all combinations of the edges of the fields.
func gridRequests() []impl.Req {
	var list []impl.Req
	for kind := 1; kind <= 7; kind++ {
		some := []impl.Req{{Kind: kind}}
		for _, f := range fieldsUsed(kind) {
			var more []impl.Req
			for _, q := range some {
				for _, n := range fieldEdges(f) {
					more = append(more, withReqField(q, f, n))
				}
			}
			some = more
		}
		list = append(list, some...)
	}
	return list
}

func fieldEdges(f reqField) []int {
	list := []int{0, 1, 126, 127, 128, 9998, 9999}
	if f.name == "From" {
		list = append(list, -1)
	}
	return list
}

func TestReqBytesOfEachKind(t *testing.T) {
	for _, c := range []struct {
		q    impl.Req
		want string
	}{
		{joinReq(300, 129, 1000, 77, 5), "\x01\xac\x02\x81\x01\xe9\x07\x4d\x05"},
		{joinReq(1, 2, 3, 4, 5), "\x01\x01\x02\x04\x04\x05"},
		{joinReq(9, 8, -1, 6, 7), "\x01\x09\x08\x00\x06\x07"},
		{joinReq(9995, 9996, 9999, 9997, 9998), "\x01\x8b\x4e\x8c\x4e\x90\x4e\x8d\x4e\x8e\x4e"},
		{joinReq(0, 0, -1, 0, 0), "\x01\x00\x00\x00\x00\x00"},
		{joinReq(0, 0, 0, 0, 0), "\x01\x00\x00\x01\x00\x00"},
		{cancelReq(300), "\x02\xac\x02"},
		{cancelReq(9), "\x02\x09"},
		{freeReq(200, 60), "\x03\xc8\x01\x3c"},
		{freeReq(5, 6), "\x03\x05\x06"},
		{acceptReq(128), "\x04\x80\x01"},
		{acceptReq(9), "\x04\x09"},
		{declineReq(9999), "\x05\x8f\x4e"},
		{declineReq(9), "\x05\x09"},
		{tickReq(), "\x06"},
		{pickReq(3), "\x07\x03"},
		{pickReq(127), "\x07\x7f"},
	} {
		wantBytes(t, c.q, c.want)
		wantRead(t, c.want, c.q)
	}
}

func TestReqBytesOfEachField(t *testing.T) {
	bytesAt := map[int]string{
		-1: "", 0: "\x00", 1: "\x01", 2: "\x02", 127: "\x7f", 128: "\x80\x01", 129: "\x81\x01",
		9998: "\x8e\x4e", 9999: "\x8f\x4e", 10000: "\x90\x4e",
	}
	for kind := 1; kind <= 7; kind++ {
		for at, f := range fieldsUsed(kind) {
			for _, n := range []int{0, 1, 127, 128, 9998, 9999} {
				q := impl.Req{Kind: kind}
				if kind == 1 {
					q.From = -1
				}
				number := n
				if f.name == "From" {
					n--
				}
				before := string([]byte{byte(kind)}) + strings.Repeat("\x00", at)
				after := strings.Repeat("\x00", len(usedBy(kind))-at-1)
				wantBytes(t, withReqField(q, f, n), before+bytesAt[number]+after)
			}
		}
	}
	for from, want := range map[int]string{-1: "\x00", 0: "\x01", 1: "\x02", 126: "\x7f", 127: "\x80\x01", 128: "\x81\x01", 9998: "\x8f\x4e", 9999: "\x90\x4e"} {
		wantBytes(t, joinReq(1, 2, from, 3, 4), "\x01\x01\x02"+want+"\x03\x04")
	}
}

func TestReqBytesRejectsKinds(t *testing.T) {
	for _, kind := range append(otherKinds(), 127, 128, 256+1) {
		for _, q := range append(gridRequests()[:50], codeRequests()...) {
			q.Kind = kind
			wantNoBytes(t, q)
		}
		wantNoBytes(t, impl.Req{Kind: kind})
		wantNoBytes(t, impl.Req{Kind: kind, From: -1})
	}
	wantNoBytes(t, impl.Req{})
}

func TestReqBytesRejectsFields(t *testing.T) {
	for _, q := range codeRequests() {
		for _, f := range fieldsUsed(q.Kind) {
			least := 0
			if f.name == "From" {
				least = -1
			}
			for _, n := range append(farNums(), least-1, impl.MaxField+1, impl.MaxField+2, numLimit, numLimit+1, math.MaxInt, math.MinInt) {
				if n >= least && n <= impl.MaxField {
					continue
				}
				wantNoBytes(t, withReqField(q, f, n))
			}
		}
		for _, f := range fieldsUnused(q.Kind) {
			for _, n := range append(farNums(), -1, 1, 2, 127, 128, impl.MaxField, impl.MaxField+1) {
				wantNoBytes(t, withReqField(q, f, n))
			}
		}
	}
}

func TestReqRoundTripGrid(t *testing.T) {
	grid := gridRequests()
	if len(grid) != 7*7*8*7*7+4*7+7*7+1 {
		t.Errorf("the grid has %d requests", len(grid))
	}
	for _, q := range append(grid, codeRequests()...) {
		wantRound(t, q)
	}
}

func TestReqRoundTripFields(t *testing.T) {
	for n := 0; n <= impl.MaxField; n++ {
		for _, q := range []impl.Req{
			cancelReq(n), acceptReq(n), declineReq(n), pickReq(n), freeReq(n, 5), freeReq(300, n), freeReq(n, 9999-n),
			joinReq(n, 1, 2, 3, 4), joinReq(1, n, 2, 3, 4), joinReq(1, 2, n-1, 3, 4), joinReq(1, 2, n, 3, 4), joinReq(1, 2, 3, n, 4),
			joinReq(1, 2, 3, 4, n), joinReq(n, 9999-n, n, 9999-n, n),
		} {
			wantRound(t, q)
		}
	}
}

func TestReqRoundTripMany(t *testing.T) {
	next := mixer(18)
	for range 30000 {
		q := impl.Req{Kind: 1 + next(7)}
		for _, f := range fieldsUsed(q.Kind) {
			*f.of(&q) = next([]int{3, 130, 300, 10000}[next(4)])
		}
		if q.Kind == 1 && next(3) == 0 {
			q.From = -1
		}
		wantRound(t, q)
	}
}

// TestReqBytesDiffer sorts the encodings, where one that begins another would
// stand right before such a one.
func TestReqBytesDiffer(t *testing.T) {
	of := map[string]impl.Req{}
	list := append(gridRequests(), codeRequests()...)
	for n := 0; n <= impl.MaxField; n++ {
		list = append(list, cancelReq(n), acceptReq(n), declineReq(n), pickReq(n), freeReq(n, 1), freeReq(1, n), joinReq(n, 0, n, 0, n))
	}
	var all []string
	for _, q := range list {
		s := impl.ReqBytes(q)
		other, there := of[s]
		if there && other != q {
			t.Errorf("ReqBytes of %+v and of %+v is %x", q, other, s)
		}
		if !there {
			all = append(all, s)
		}
		of[s] = q
	}
	slices.Sort(all)
	for i := range len(all) - 1 {
		if strings.HasPrefix(all[i+1], all[i]) {
			t.Errorf("%x is the beginning of %x", all[i], all[i+1])
		}
	}
}

// TestReqReadShortStrings tries every string of at most two bytes, and those of
// three bytes whose first one is near a kind.
func TestReqReadShortStrings(t *testing.T) {
	wantNoRead(t, "")
	found := map[int]int{}
	check := func(b ...byte) {
		if wantReadAsFound(t, string(b)) {
			found[len(b)]++
		}
	}
	for x := range 256 {
		check(byte(x))
		for y := range 256 {
			check(byte(x), byte(y))
			for first := range 9 {
				check(byte(first), byte(x), byte(y))
			}
		}
	}
	// The numbers of two bytes end with a byte from 1 to 78, and those of 78
	// have only 16 first bytes, of 9984 to 9999.
	if found[1] != 1 || found[2] != 4*128 || found[3] != 128*128+4*(77*128+16) {
		t.Errorf("requests by their length: %v", found)
	}
}

func TestReqReadCut(t *testing.T) {
	for _, q := range append(codeRequests(), gridRequests()...) {
		s := bytesOf(q)
		for size := range len(s) {
			wantNoRead(t, s[:size])
		}
	}
}

func TestReqReadTrailing(t *testing.T) {
	for _, q := range codeRequests() {
		s := bytesOf(q)
		for b := range 256 {
			wantNoRead(t, s+string([]byte{byte(b)}))
			wantNoRead(t, s+"\x00"+string([]byte{byte(b)}))
		}
		for _, other := range codeRequests() {
			wantNoRead(t, s+bytesOf(other))
		}
		for _, size := range []int{2, 3, 4, 5, 6, 7, 100, 5000} {
			wantNoRead(t, s+strings.Repeat("\x00", size))
			wantNoRead(t, s+strings.Repeat("\x80", size))
			wantNoRead(t, s+strings.Repeat("\x06", size))
		}
	}
}

func TestReqReadLeading(t *testing.T) {
	for _, q := range codeRequests() {
		for b := range 256 {
			wantReadAsFound(t, string([]byte{byte(b)})+bytesOf(q))
		}
		wantNoRead(t, "\x00"+bytesOf(q))
		wantNoRead(t, "\x06"+bytesOf(q))
	}
}

func TestReqReadKinds(t *testing.T) {
	tails := []string{""}
	for _, q := range codeRequests() {
		tails = append(tails, bytesOf(q)[1:])
	}
	for size := range 8 {
		tails = append(tails, strings.Repeat("\x00", size), strings.Repeat("\x05", size))
	}
	for _, kind := range []int{0, 8, 9, 127, 128, 129, 130, 134, 256 + 1, 128*128 + 6, impl.MaxField, 1<<28 + 6, numLimit} {
		for _, tail := range tails {
			wantNoRead(t, string(varint(kind))+tail)
		}
	}
	for _, tail := range tails {
		wantNoRead(t, "\xff\xff\xff\xff\x08"+tail)
		wantNoRead(t, "\x86\x80\x80\x80\x10"+tail)
		wantNoRead(t, "\x86\x80\x80\x80\x80\x80\x80\x80\x80\x02"+tail)
	}
}

// placesIn has the encoding of each number of a request on its own.
func placesIn(q impl.Req) [][]byte {
	places := [][]byte{varint(q.Kind)}
	for _, n := range numsUsed(q) {
		places = append(places, varint(n))
	}
	return places
}

// withPlace has other bytes for the number at a place.
func withPlace(q impl.Req, at int, b []byte) string {
	places := placesIn(q)
	places[at] = b
	return string(slices.Concat(places...))
}

func TestReqReadNotShortest(t *testing.T) {
	for _, q := range codeRequests() {
		for at, number := range placesIn(q) {
			long := slices.Clone(number)
			for range 11 {
				long[len(long)-1] |= 128
				long = append(long, 0)
				wantNoRead(t, withPlace(q, at, long))
			}
		}
	}
}

func TestReqReadEndlessNumber(t *testing.T) {
	for _, q := range codeRequests() {
		places := placesIn(q)
		for at := range places {
			before := string(slices.Concat(places[:at]...))
			for _, size := range []int{1, 2, 3, 4, 5, 6, 9, 10, 11, 60, 2000} {
				wantNoRead(t, before+strings.Repeat("\x80", size))
				wantNoRead(t, before+strings.Repeat("\xff", size))
				wantNoRead(t, before+strings.Repeat("\x86", size))
			}
		}
	}
}

func TestReqReadGreatNumbers(t *testing.T) {
	for _, q := range codeRequests() {
		for at, f := range fieldsUsed(q.Kind) {
			most := 9999
			if f.name == "From" {
				most = 10000
			}
			wantReadAsFound(t, withPlace(q, at+1, varint(most)))
			for _, n := range []int{most + 1, most + 2, 16383, 16384, 1<<16 + 1, 1<<21 - 1, 1 << 28, numLimit - 1, numLimit} {
				wantNoRead(t, withPlace(q, at+1, varint(n)))
			}
			for _, n := range []uint64{numLimit + 1, 1<<32 + 1, 1<<35 + 1, 1<<63 + 1, math.MaxUint64} {
				wantNoRead(t, withPlace(q, at+1, binary.AppendUvarint(nil, n)))
			}
		}
	}
	wantRead(t, "\x01\x00\x00\x90\x4e\x00\x00", joinReq(0, 0, 9999, 0, 0))
	wantNoRead(t, "\x01\x00\x00\x91\x4e\x00\x00")
}

func TestReqReadUnusedNumbers(t *testing.T) {
	for kind := 1; kind <= 7; kind++ {
		used := len(usedBy(kind))
		for count := range 9 {
			for _, n := range []string{"\x00", "\x01", "\x07", "\x8f\x4e"} {
				s := string([]byte{byte(kind)}) + strings.Repeat(n, count)
				if ok := wantReadAsFound(t, s); ok != (count == used) {
					t.Errorf("ReqRead(%x) is %v with %d numbers", s, ok, count)
				}
			}
		}
	}
}

func TestReqReadChangedByte(t *testing.T) {
	accepted := 0
	for _, q := range codeRequests() {
		s := bytesOf(q)
		for at := range len(s) {
			b := []byte(s)
			for c := range 256 {
				if byte(c) == s[at] {
					continue
				}
				b[at] = byte(c)
				if wantReadAsFound(t, string(b)) {
					accepted++
				}
			}
		}
	}
	if accepted < 2000 {
		t.Errorf("only %d changed encodings are requests", accepted)
	}
}

// TestReqReadMany has strings that look like encodings.
func TestReqReadMany(t *testing.T) {
	next := mixer(181)
	accepted := 0
	for range 60000 {
		b := []byte{byte(next(9))}
		for range next(12) {
			b = append(b, []byte{byte(next(4)), byte(next(128)), byte(128 + next(128)), 78, 79, 128}[next(6)])
		}
		if wantReadAsFound(t, string(b)) {
			accepted++
		}
	}
	if accepted < 1000 {
		t.Errorf("only %d strings are requests", accepted)
	}
}

// noteFound is the document's NoteOf, written out.
func noteFound(seq int, q impl.Req) string {
	if seq < 1 || seq > 1000000 || !formRight(q) {
		return ""
	}
	return handFrame(seq, bytesOf(q))
}

func wantNote(t *testing.T, seq int, q impl.Req) {
	t.Helper()
	want := noteFound(seq, q)
	if got := impl.NoteOf(seq, q); got != want {
		t.Errorf("NoteOf(%d, %+v) = %x, want %x", seq, q, got, want)
	}
}

// wrongReqs are not ReqOk.
func wrongReqs() []impl.Req {
	return []impl.Req{
		{}, {Kind: 8}, {Kind: -1}, {Kind: math.MaxInt}, {Kind: math.MinInt}, cancelReq(-1), acceptReq(10000), freeReq(0, -1),
		freeReq(10000, 1), pickReq(math.MinInt), joinReq(1, 2, -2, 3, 4), joinReq(1, 2, 10000, 3, 4), joinReq(1, 2, math.MaxInt, 3, 4),
		{Kind: 6, Id: 1}, {Kind: 6, From: -1}, {Kind: 2, Id: 1, Tier: 1}, {Kind: 3, Id: 1, Cabin: 1, Size: 1},
	}
}

func TestNoteOfBytes(t *testing.T) {
	for _, c := range []struct {
		seq  int
		q    impl.Req
		want string
	}{
		{1, tickReq(), "\x06\xb1\xa1\x86\x8b\x01\x06"},
		{300, freeReq(1, 2), "\x09\x2c\xaf\xa3\x35\xac\x02\x03\x01\x02"},
	} {
		if want := noteFound(c.seq, c.q); want != c.want {
			t.Errorf("the test means that note %d of %+v is %x, and not %x", c.seq, c.q, c.want, want)
		}
		if got := impl.NoteOf(c.seq, c.q); got != c.want {
			t.Errorf("NoteOf(%d, %+v) = %x, want %x", c.seq, c.q, got, c.want)
		}
	}
}

func TestNoteOf(t *testing.T) {
	for _, q := range codeRequests() {
		for _, seq := range append(edgeSeqs(), 999999) {
			wantNote(t, seq, q)
			s := impl.NoteOf(seq, q)
			if s != impl.FrameOf(seq, impl.ReqBytes(q)) || s == "" {
				t.Errorf("NoteOf(%d, %+v) = %x is no frame", seq, q, s)
			}
			wantFrame(t, s, 0, impl.Frame{Seq: seq, Body: bytesOf(q), Next: len(s)})
		}
		for _, seq := range append(badSeqs(), extremes()...) {
			wantNote(t, seq, q)
		}
	}
	for _, q := range wrongReqs() {
		for _, seq := range slices.Concat(edgeSeqs(), badSeqs(), extremes()) {
			wantNote(t, seq, q)
			if got := impl.NoteOf(seq, q); got != "" {
				t.Errorf("NoteOf(%d, %+v) = %x", seq, q, got)
			}
		}
	}
}

func wantNotes(t *testing.T, list []impl.Frame, want ...impl.Req) {
	t.Helper()
	if got := impl.NotesIn(list); !slices.Equal(got, want) {
		t.Errorf("NotesIn(%+v) = %+v, want %+v", list, got, want)
	}
}

// framesWith has the encodings of the requests as its bodies; the other fields
// are of no use.
func framesWith(list []impl.Req, seqs ...int) []impl.Frame {
	var frames []impl.Frame
	for i, q := range list {
		frames = append(frames, impl.Frame{Seq: seqs[i%len(seqs)], Body: bytesOf(q), Next: seqs[(i+1)%len(seqs)]})
	}
	return frames
}

func TestNotesIn(t *testing.T) {
	wantNotes(t, nil)
	wantNotes(t, []impl.Frame{})
	all := codeRequests()
	for _, q := range all {
		wantNotes(t, framesWith([]impl.Req{q}, 1), q)
	}
	for _, seqs := range [][]int{{1, 2, 3}, {0}, {7}, {-1}, {3, 2, 1}, {1, 9, 5}, extremes(), {impl.MaxSeq + 1}} {
		for size := range len(all) + 1 {
			wantNotes(t, framesWith(all[:size], seqs...), all[:size]...)
		}
	}
	back := slices.Clone(all)
	slices.Reverse(back)
	wantNotes(t, framesWith(back, 1), back...)
	wantNotes(t, framesWith([]impl.Req{all[0], all[0], all[1], all[0]}, 4, 4), all[0], all[0], all[1], all[0])
}

// wrongBodies are no encodings of requests.
func wrongBodies() []string {
	list := []string{"", "\x00", "\x08", "\x06\x00", "\x06\x06", "\x02", "\x03\x01", "\x02\x80\x00", "\x86\x00", "\x02\x90\x4e", "\xff", "join 1", strings.Repeat("\x06", 61), strings.Repeat("\x00", 5000)}
	for _, q := range codeRequests() {
		s := bytesOf(q)
		list = append(list, s[:len(s)-1], s[1:]+"\x00\x00\x00\x00\x00\x00", s+"\x00", s+s)
	}
	return list
}

func TestNotesInStops(t *testing.T) {
	all := codeRequests()
	for _, body := range wrongBodies() {
		wantNoRead(t, body)
		for at := range len(all) {
			frames := framesWith(all, 1, 2, 3)
			frames[at].Body = body
			wantNotes(t, frames, all[:at]...)
			wantNotes(t, frames[:at+1], all[:at]...)
			wantNotes(t, slices.Insert(framesWith(all, 1), at, impl.Frame{Seq: 1, Body: body}), all[:at]...)
		}
		wantNotes(t, append(framesWith(all, 5), impl.Frame{Body: body}), all...)
		wantNotes(t, append([]impl.Frame{{Body: body}, {Body: body}}, framesWith(all, 5)...))
	}
}

// logFound is the document's LogOf, written out.
func logFound(list []impl.Req, from int) string {
	log := ""
	for i, q := range list {
		note := noteFound(from+i, q)
		if note == "" {
			return ""
		}
		log += note
	}
	return log
}

func wantLog(t *testing.T, list []impl.Req, from int) {
	t.Helper()
	if got, want := impl.LogOf(list, from), logFound(list, from); got != want {
		t.Errorf("LogOf(%+v, %d) = %x, want %x", list, from, got, want)
	}
}

func wantNoLog(t *testing.T, list []impl.Req, from int) {
	t.Helper()
	if want := logFound(list, from); want != "" {
		t.Errorf("the test means that %+v from %d is no log", list, from)
	}
	if got := impl.LogOf(list, from); got != "" {
		t.Errorf("LogOf(%+v, %d) = %x, want nothing", list, from, got)
	}
}

// wantLogRead checks a log of requests that are ReqOk, cut at every byte.
func wantLogRead(t *testing.T, list []impl.Req, from int) {
	t.Helper()
	wantLog(t, list, from)
	log := impl.LogOf(list, from)
	var frames []impl.Frame
	for i, q := range list {
		at := 0
		if i > 0 {
			at = frames[i-1].Next
		}
		frames = append(frames, impl.Frame{Seq: from + i, Body: bytesOf(q), Next: at + len(noteFound(from+i, q))})
	}
	if len(list) > 0 && frames[len(frames)-1].Next != len(log) {
		t.Errorf("LogOf(%+v, %d) has %d bytes", list, from, len(log))
	}
	for size := range len(log) + 1 {
		whole := 0
		for whole < len(frames) && frames[whole].Next <= size {
			whole++
		}
		wantFrames(t, log[:size], frames[:whole])
		wantNotes(t, impl.Frames(log[:size]), list[:whole]...)
	}
}

func TestLogOf(t *testing.T) {
	all := codeRequests()
	for _, from := range append(edgeSeqs()[:8], 999900, impl.MaxSeq-len(all)+1) {
		for size := range len(all) + 1 {
			wantLog(t, all[:size], from)
			log := ""
			for i, q := range all[:size] {
				log += impl.NoteOf(from+i, q)
			}
			if got := impl.LogOf(all[:size], from); got != log || size > 0 && got == "" {
				t.Errorf("LogOf %d requests from %d = %x, want %x", size, from, got, log)
			}
		}
		wantLogRead(t, all, from)
		for _, q := range all {
			wantLogRead(t, []impl.Req{q}, from)
			wantLogRead(t, []impl.Req{q, q}, from)
		}
	}
	if got := impl.LogOf([]impl.Req{tickReq()}, 1); got != "\x06\xb1\xa1\x86\x8b\x01\x06" {
		t.Errorf("LogOf a tick = %x", got)
	}
}

func TestLogOfNothing(t *testing.T) {
	for _, from := range slices.Concat(edgeSeqs(), badSeqs(), extremes()) {
		for _, list := range [][]impl.Req{nil, {}, make([]impl.Req, 0, 3), codeRequests()[:0]} {
			wantNoLog(t, list, from)
		}
	}
}

func TestLogOfMany(t *testing.T) {
	next := mixer(1818)
	var list []impl.Req
	for range 3000 {
		list = append(list, codeRequests()[next(len(codeRequests()))])
	}
	for _, from := range []int{1, 15000, 16000, impl.MaxSeq - 2999} {
		log := impl.LogOf(list, from)
		frames := impl.Frames(log)
		if len(frames) != len(list) || impl.Whole(log) != len(log) {
			t.Fatalf("%d frames from %d, %d of %d bytes", len(frames), from, impl.Whole(log), len(log))
		}
		for i, f := range frames {
			if f.Seq != from+i || f.Body != bytesOf(list[i]) {
				t.Fatalf("frame %d from %d is %+v", i, from, f)
			}
		}
		if !slices.Equal(impl.NotesIn(frames), list) {
			t.Errorf("NotesIn of the log from %d differs", from)
		}
	}
	wantNoLog(t, list, impl.MaxSeq-2998)
}

func TestLogOfWrongRequest(t *testing.T) {
	all := codeRequests()
	for _, wrong := range wrongReqs() {
		wantNoLog(t, []impl.Req{wrong}, 1)
		wantNoLog(t, []impl.Req{wrong, wrong}, 5)
		for _, from := range []int{1, 200, impl.MaxSeq - len(all)} {
			for at := range len(all) + 1 {
				wantNoLog(t, slices.Insert(slices.Clone(all), at, wrong), from)
			}
		}
	}
}

func TestLogOfNumbers(t *testing.T) {
	all := codeRequests()
	for size := 1; size <= len(all); size++ {
		list := all[:size]
		last := impl.MaxSeq - size + 1
		wantLogRead(t, list, last)
		if impl.LogOf(list, last) == "" {
			t.Errorf("no log of %d requests up to MaxSeq", size)
		}
		for over := 1; over <= size+1; over++ {
			wantNoLog(t, list, last+over)
		}
		for _, from := range slices.Concat(badSeqs(), extremes()) {
			wantNoLog(t, list, from)
		}
		// The later numbers are right here.
		for from := -size - 1; from <= 0; from++ {
			wantNoLog(t, list, from)
		}
		for back := range size + 2 {
			wantNoLog(t, list, math.MaxInt-back)
			wantNoLog(t, list, math.MinInt+back)
		}
	}
}

// roomyFrames returns list with frames in its unused capacity, and all of it.
func roomyFrames(list []impl.Frame) ([]impl.Frame, []impl.Frame) {
	all := slices.Concat(list, framesWith(codeRequests()[:3], 8))
	return all[:len(list)], all
}

func TestCodeArgumentsAreKept(t *testing.T) {
	good, bad := codeRequests(), wrongReqs()
	for size := range 6 {
		for _, list := range [][]impl.Req{good[:size], bad[:size], slices.Concat(good[:size], bad[:1], good)} {
			part, all := roomyReqs(list)
			before := slices.Clone(all)
			for _, from := range []int{-1, 0, 1, 128, impl.MaxSeq - size, impl.MaxSeq, math.MaxInt} {
				wantLog(t, part, from)
				impl.LogOf(part, from)
			}
			if !slices.Equal(all, before) {
				t.Errorf("LogOf changed %+v to %+v", before, all)
			}
		}
		for _, frames := range [][]impl.Frame{framesWith(good[:size], 1, 2), append(framesWith(good[:size], 3), impl.Frame{Seq: 1})} {
			part, all := roomyFrames(frames)
			before := slices.Clone(all)
			wantNotes(t, part, good[:size]...)
			if !slices.Equal(all, before) {
				t.Errorf("NotesIn changed %+v to %+v", before, all)
			}
		}
	}
}

func TestNotesInSharesNoMemory(t *testing.T) {
	all := codeRequests()
	frames := framesWith(all, 1, 2)
	frames = append(frames, impl.Frame{Body: "\x08"})
	kept := slices.Clone(frames)
	for size := range len(frames) + 1 {
		want := all[:min(size, len(all))]
		first, second := impl.NotesIn(frames[:size]), impl.NotesIn(frames[:size])
		for i := range first[:cap(first)] {
			first[:cap(first)][i] = impl.Req{Kind: -7}
		}
		if !slices.Equal(second, want) || !slices.Equal(frames, kept) {
			t.Errorf("the results of NotesIn of %d frames share memory", size)
		}
		wantNotes(t, frames[:size], want...)
		other := slices.Clone(frames[:size])
		got := impl.NotesIn(other)
		clear(other)
		if !slices.Equal(got, want) {
			t.Errorf("NotesIn of %d frames shares memory with its argument", size)
		}
	}
}

// TestCodeKeepsNothing has each call follow each other one.
func TestCodeKeepsNothing(t *testing.T) {
	good, bad := codeRequests(), wrongReqs()
	for _, before := range append(good, bad...) {
		for i, q := range append(good, bad...) {
			impl.ReqBytes(before)
			impl.ReqRead(bytesOf(before))
			impl.NoteOf(7, before)
			impl.LogOf([]impl.Req{before, before}, 3)
			impl.NotesIn(framesWith([]impl.Req{before}, 3))
			wantBytes(t, q, bytesOf(q))
			wantNote(t, 5, q)
			wantLog(t, []impl.Req{q, good[0]}, 5)
			if i < len(good) {
				wantRound(t, q)
				wantNotes(t, framesWith([]impl.Req{q}, 3), q)
				continue
			}
			wantNoRead(t, bytesOf(q))
			wantNotes(t, framesWith([]impl.Req{good[1], q, good[2]}, 3), good[1])
		}
	}
}

// TestCodeIsTotal has extreme numbers in all fields, and bytes of any kind.
func TestCodeIsTotal(t *testing.T) {
	nums := append(extremes(), -1, 0, 1, impl.MaxField, impl.MaxField+1, numLimit)
	next := mixer(99)
	for range 20000 {
		q := impl.Req{Kind: next(9)}
		if next(4) == 0 {
			q.Kind = nums[next(len(nums))]
		}
		for _, f := range reqFields() {
			if next(2) == 0 {
				*f.of(&q) = nums[next(len(nums))]
			}
		}
		seq := slices.Concat(nums, edgeSeqs(), badSeqs())[next(len(nums)+10)]
		wantBytes(t, q, bytesOf(q))
		wantNote(t, seq, q)
		wantLog(t, []impl.Req{q}, seq)
		wantLog(t, []impl.Req{tickReq(), q}, seq)
	}
	for range 20000 {
		b := make([]byte, next(20))
		for i := range b {
			b[i] = byte(next(256))
		}
		wantReadAsFound(t, string(b))
		wantNotes(t, []impl.Frame{{Body: "\x08" + string(b)}})
	}
	for _, size := range []int{1 << 16, 1 << 20} {
		for _, s := range []string{"\x00", "\x01", "\x06", "\x80", "\xff"} {
			wantNoRead(t, strings.Repeat(s, size))
		}
	}
}
