package tests

import (
	"bytes"
	"encoding/binary"
	"hash/crc32"
	"math"
	"slices"
	"strconv"
	"strings"
	"testing"

	"loop.example/g00494/impl"
)

const numLimit = 2147483647

// edgeNums are the integers at which an encoding becomes longer or stops to
// exist, and the values beside them.
func edgeNums() []int {
	list := []int{0, 1, 2, 63, 64, 300, 999998, 999999, 1000000}
	for _, n := range []int{1 << 7, 1 << 14, 1 << 21, 1 << 28} {
		list = append(list, n-1, n, n+1)
	}
	return append(list, numLimit-1, numLimit)
}

func badNums() []int {
	return []int{numLimit + 1, numLimit + 2, 1 << 32, 1<<32 + 5, 1 << 35, math.MaxInt, -1, -2, -128, -numLimit, math.MinInt, math.MinInt + 1}
}

func edgeTexts() []string {
	list := []string{"", "a", "ab", "\x00", "\xff\x80\x00", "\x80", "seat 12\n", "äöü"}
	for _, n := range []int{126, 127, 128, 129, 16383, 16384} {
		list = append(list, strings.Repeat("s", n))
	}
	return list
}

// roomy returns a copy of b whose unused capacity is filled with fill, and the
// whole memory behind it.
func roomy(b []byte, fill byte) ([]byte, []byte) {
	all := slices.Concat(b, bytes.Repeat([]byte{fill}, 16))
	return all[:len(b)], all
}

func wantNum(t *testing.T, b []byte, at, n, next int) {
	t.Helper()
	gotN, gotNext, ok := impl.GetNum(b, at)
	if gotN != n || gotNext != next || !ok {
		t.Errorf("GetNum(%v, %d) = %d, %d, %v; want %d, %d, true", b, at, gotN, gotNext, ok, n, next)
	}
}

func wantNoNum(t *testing.T, b []byte, at int) {
	t.Helper()
	if n, next, ok := impl.GetNum(b, at); n != 0 || next != 0 || ok {
		t.Errorf("GetNum(%v, %d) = %d, %d, %v; want 0, 0, false", b, at, n, next, ok)
	}
}

func wantNoText(t *testing.T, b []byte, at int) {
	t.Helper()
	if s, next, ok := impl.GetText(b, at); s != "" || next != 0 || ok {
		t.Errorf("GetText(%v, %d) = %q, %d, %v; want \"\", 0, false", b, at, s, next, ok)
	}
}

func TestDigits(t *testing.T) {
	for n, want := range map[int]string{
		0: "0", 7: "7", 10: "10", -1: "-1", -70: "-70", -100: "-100",
		999999: "999999", 1000000: "1000000", 2147483647: "2147483647", 2147483648: "2147483648",
		math.MaxInt: "9223372036854775807", math.MinInt: "-9223372036854775808", math.MinInt + 1: "-9223372036854775807",
	} {
		if got := impl.Digits(n); got != want {
			t.Errorf("Digits(%d) = %q, want %q", n, got, want)
		}
	}
}

func TestNumberReadsEveryDigits(t *testing.T) {
	for want := 0; want <= 999999; want++ {
		s := impl.Digits(want)
		if s != strconv.Itoa(want) {
			t.Fatalf("Digits(%d) = %q", want, s)
		}
		if n, ok := impl.Number(s); n != want || !ok {
			t.Fatalf("Number(%q) = %d, %v", s, n, ok)
		}
	}
}

func TestNumberRejects(t *testing.T) {
	bad := []string{
		"", " ", "-", "+", "-0", "-1", "-999999", "+0", "+7", "00", "01", "012", "000000", "0000001", "0999999",
		" 1", "1 ", "1\n", "\x001", "1\x00", "1.0", "1e3", "1_000", "0x1", "/", ":", "9:", "a", "1a2", "\xff", "٣", "１",
		"1000000", "1000001", "9999999", "2147483647", "4294967296", "4294967297", "9223372036854775807",
		"9223372036854775808", "18446744073709551616", "18446744073709551617", "-9223372036854775808",
		strings.Repeat("9", 400), strings.Repeat("0", 400), "1" + strings.Repeat("0", 64),
	}
	for _, s := range bad {
		if n, ok := impl.Number(s); n != 0 || ok {
			t.Errorf("Number(%q) = %d, %v; want 0, false", s, n, ok)
		}
	}
}

// TestNumberShortStrings compares Number with its definition for all strings of
// up to two bytes.
func TestNumberShortStrings(t *testing.T) {
	want := map[string]int{}
	for n := range 100 {
		want[strconv.Itoa(n)] = n
	}
	check := func(s string) {
		w, there := want[s]
		if n, ok := impl.Number(s); n != w || ok != there {
			t.Errorf("Number(%q) = %d, %v; want %d, %v", s, n, ok, w, there)
		}
	}
	for a := range 256 {
		check(string([]byte{byte(a)}))
		for b := range 256 {
			check(string([]byte{byte(a), byte(b)}))
		}
	}
}

func TestPutNumBytes(t *testing.T) {
	for n, want := range map[int]string{
		0: "\x00", 1: "\x01", 127: "\x7f", 128: "\x80\x01", 300: "\xac\x02",
		16383: "\xff\x7f", 16384: "\x80\x80\x01", 999999: "\xbf\x84\x3d",
		2097151: "\xff\xff\x7f", 2097152: "\x80\x80\x80\x01", 268435455: "\xff\xff\xff\x7f",
		268435456: "\x80\x80\x80\x80\x01", 2147483646: "\xfe\xff\xff\xff\x07", 2147483647: "\xff\xff\xff\xff\x07",
	} {
		if got := impl.PutNum(n); string(got) != want {
			t.Errorf("PutNum(%d) = %x, want %x", n, got, want)
		}
	}
	for _, n := range badNums() {
		if got := impl.PutNum(n); got != nil {
			t.Errorf("PutNum(%d) = %x, want nil", n, got)
		}
	}
}

func TestNumRoundTrip(t *testing.T) {
	check := func(n int) {
		b := impl.PutNum(n)
		if !bytes.Equal(b, binary.AppendUvarint(nil, uint64(n))) {
			t.Fatalf("PutNum(%d) = %x", n, b)
		}
		wantNum(t, b, 0, n, len(b))
		wantNum(t, slices.Concat([]byte{128, 255}, b, []byte{128, 255}), 2, n, 2+len(b))
	}
	for _, n := range edgeNums() {
		check(n)
	}
	for n := range 70000 {
		check(n)
	}
	for n := 0; n <= numLimit-7919; n += 7919 {
		check(n)
	}
}

func TestGetNumEndsEarly(t *testing.T) {
	for _, n := range edgeNums() {
		b := impl.PutNum(n)
		for size := range len(b) {
			wantNoNum(t, b[:size], 0)
			wantNoNum(t, slices.Concat([]byte{1}, b[:size]), 1)
		}
	}
}

func TestGetNumTooLong(t *testing.T) {
	for _, n := range edgeNums() {
		b := impl.PutNum(n)
		b[len(b)-1] |= 128
		for range 6 {
			wantNoNum(t, append(slices.Clone(b), 0), 0)
			b = append(b, 128)
		}
	}
	for _, s := range []string{
		"\x80\x00", "\x81\x00", "\xff\x00", "\x80\x80\x00", "\xff\xff\xff\xff\x00", "\xff\xff\xff\xff\x87\x00",
		"\xff\xff\xff\xff\x08", "\x80\x80\x80\x80\x08", "\xff\xff\xff\xff\x0f", "\x80\x80\x80\x80\x10", "\xff\xff\xff\xff\x7f",
		"\x80\x80\x80\x80\x80\x01", "\x85\x80\x80\x80\x80\x01", "\xff\xff\xff\xff\xff\xff\xff\xff\x7f",
		"\x80\x80\x80\x80\x80\x80\x80\x80\x80\x01", "\x81\x80\x80\x80\x80\x80\x80\x80\x80\x02", strings.Repeat("\x80", 50) + "\x01",
		strings.Repeat("\xff", 9) + "\x01", strings.Repeat("\x80", 100), strings.Repeat("\xff", 100),
	} {
		wantNoNum(t, []byte(s), 0)
		wantNoNum(t, []byte("\x05"+s), 1)
	}
}

// TestGetNumDefinition compares GetNum with its definition for all inputs of up
// to two bytes, and of more bytes of which some are fixed.
func TestGetNumDefinition(t *testing.T) {
	check := func(b ...byte) {
		v, size := binary.Uvarint(b)
		shortest := size > 0 && v <= numLimit && len(binary.AppendUvarint(nil, v)) == size
		if shortest {
			wantNum(t, b, 0, int(v), size)
		} else {
			wantNoNum(t, b, 0)
		}
	}
	check()
	for x := range 256 {
		a := byte(x)
		check(a)
		check(255, 255, 255, 255, a)
		check(128, 128, 128, 128, a)
		for y := range 256 {
			b := byte(y)
			check(a, b)
			check(200, a, b)
			check(128, 129, a, b)
			check(255, 255, 255, a, b)
			check(1, a, b)
			check(255, 255, 255, 255, a, b)
		}
	}
}

func TestGetOffsets(t *testing.T) {
	for _, b := range [][]byte{nil, {}, {0}, {5}, {1, 'x'}, {0, 0, 0, 0, 0, 0}} {
		for _, at := range []int{-1, -2, -len(b), -len(b) - 1, len(b), len(b) + 1, len(b) + 5, 1 << 31, 1 << 32, math.MaxInt - 5, math.MaxInt - 4, math.MaxInt, math.MinInt, math.MinInt + 1} {
			if at >= 0 && at < len(b) {
				continue
			}
			wantNoNum(t, b, at)
			wantNoText(t, b, at)
			full, _ := roomy(b, 0)
			wantNoNum(t, full, at)
			wantNoText(t, full, at)
		}
	}
	b := []byte{0xac, 0x02, 0x07}
	wantNum(t, b, 0, 300, 2)
	wantNum(t, b, 1, 2, 2)
	wantNum(t, b, 2, 7, 3)
}

func TestTextRoundTrip(t *testing.T) {
	for _, s := range edgeTexts() {
		b := impl.PutText(s)
		if want := slices.Concat(binary.AppendUvarint(nil, uint64(len(s))), []byte(s)); !bytes.Equal(b, want) {
			t.Errorf("PutText of %d bytes = %x", len(s), b)
		}
		for _, pad := range []int{0, 1, 3} {
			in := slices.Concat(bytes.Repeat([]byte{200}, pad), b, bytes.Repeat([]byte{200}, pad))
			got, next, ok := impl.GetText(in, pad)
			if got != s || next != pad+len(b) || !ok {
				t.Errorf("GetText at %d of %d bytes: %q, %d, %v", pad, len(s), got, next, ok)
			}
		}
	}
	if b := impl.PutText(""); string(b) != "\x00" {
		t.Errorf("PutText of the empty string = %x", b)
	}
}

func TestGetTextInSequence(t *testing.T) {
	var all []byte
	for _, s := range edgeTexts() {
		all = append(all, impl.PutText(s)...)
	}
	at := 0
	for i, want := range edgeTexts() {
		s, next, ok := impl.GetText(all, at)
		if s != want || !ok {
			t.Fatalf("text %d: %q, %v", i, s, ok)
		}
		at = next
	}
	if at != len(all) {
		t.Errorf("ended at %d of %d", at, len(all))
	}
	wantNoText(t, all, at)
}

func TestGetTextEndsEarly(t *testing.T) {
	for _, s := range edgeTexts() {
		b := impl.PutText(s)
		for size := max(0, len(b)-300); size < len(b); size++ {
			wantNoText(t, slices.Clone(b[:size]), 0)
			// What is beyond the length does not count, even if it is there.
			wantNoText(t, b[:size], 0)
		}
	}
}

func TestGetTextRejects(t *testing.T) {
	for _, s := range []string{
		"\x01", "\x02x", "\x03xy", "\x80\x00", "\x81\x00x", "\x81\x80\x00x", "\x80", "\xff\x00",
		"\xff\xff\xff\xff\x07", "\xff\xff\xff\xff\x07abc", "\xff\xff\xff\xff\x08abc", "\x80\x80\x80\x80\x08",
		"\x80\x80\x80\x80\x80\x80\x80\x80\x80\x01", "\xff\xff\xff\xff\xff\xff\xff\xff\x7f", "\xff\xff\xff\xff\xff\xff\xff\xff\xff\x01x",
	} {
		wantNoText(t, []byte(s), 0)
		wantNoText(t, []byte("q"+s), 1)
		full, _ := roomy([]byte(s), 0)
		wantNoText(t, full, 0)
	}
}

func TestParts(t *testing.T) {
	for _, c := range []struct {
		s    string
		by   byte
		want []string
	}{
		{"", ',', []string{""}},
		{"", 0, []string{""}},
		{",", ',', []string{"", ""}},
		{",,", ',', []string{"", "", ""}},
		{"a", ',', []string{"a"}},
		{"a,,b,", ',', []string{"a", "", "b", ""}},
		{",a", ',', []string{"", "a"}},
		{"join 1 2", ' ', []string{"join", "1", "2"}},
		{"a\nb\n", '\n', []string{"a", "b", ""}},
		{"a\x00b", 0, []string{"a", "b"}},
		{"a\xffb\xff", 255, []string{"a", "b", ""}},
		{"ä", 0xc3, []string{"", "\xa4"}},
		{"ä", 0xa4, []string{"\xc3", ""}},
		{"ä", 0xe4, []string{"ä"}},
	} {
		if got := impl.Parts(c.s, c.by); !slices.Equal(got, c.want) {
			t.Errorf("Parts(%q, %q) = %q, want %q", c.s, c.by, got, c.want)
		}
	}
}

func TestPartsJoinAgain(t *testing.T) {
	for _, s := range append(edgeTexts(), "a,b", ",,,", "seats\x00sold", strings.Repeat("s,", 300)) {
		for by := range 256 {
			sep := string([]byte{byte(by)})
			list := impl.Parts(s, byte(by))
			if strings.Join(list, sep) != s || len(list) != strings.Count(s, sep)+1 {
				t.Errorf("Parts(%q, %d) = %q", s, by, list)
			}
		}
	}
}

func TestCrc(t *testing.T) {
	for s, want := range map[string]int{
		"": 0, "123456789": 3421780262, "a": 3904355907, "\x00": 3523407757, "\xff": 4278190080,
		"\xff\xff\xff\xff": 4294967295, "\x00\x00\x00\x00": 558161692,
	} {
		if got := impl.Crc([]byte(s)); got != want {
			t.Errorf("Crc(%q) = %d, want %d", s, got, want)
		}
	}
	if impl.Crc(nil) != 0 {
		t.Error("Crc of nil")
	}
	var b []byte
	for i := range 600 {
		if got := impl.Crc(b); got != int(crc32.ChecksumIEEE(b)) {
			t.Fatalf("Crc of %d bytes = %d", len(b), got)
		}
		b = append(b, byte(i*i+3*i))
	}
}

func TestNumArgumentsUnchanged(t *testing.T) {
	inputs := [][]byte{nil, {0}, {128}, {128, 0}, {0xac, 2, 9}, {2, 'a', 'b', 'c'}, {9, 'a'}, {255, 255, 255, 255, 7}, {255, 255, 255, 255, 255, 1}}
	for _, in := range inputs {
		for _, fill := range []byte{0, 1, 128, 255} {
			b, all := roomy(in, fill)
			before := slices.Clone(all)
			for at := -1; at <= len(b)+1; at++ {
				impl.GetNum(b, at)
				impl.GetText(b, at)
			}
			impl.Crc(b)
			if !bytes.Equal(all, before) {
				t.Errorf("%v with %d behind it became %v", in, fill, all)
			}
		}
	}
}

// TestCapacityIsNotRead has valid encodings end in the unused capacity.
func TestCapacityIsNotRead(t *testing.T) {
	for _, in := range [][]byte{{}, {128}, {255, 255}, {1}, {5, 'a'}, {16, 'x', 'y'}} {
		b, _ := roomy(in, 1)
		for at := range len(in) + 1 {
			n, next, ok := impl.GetNum(slices.Clip(slices.Clone(in)), at)
			if n2, next2, ok2 := impl.GetNum(b, at); n != n2 || next != next2 || ok != ok2 {
				t.Errorf("GetNum(%v, %d) depends on the capacity", in, at)
			}
		}
		wantNoText(t, b, 0)
	}
	b, _ := roomy([]byte("123456789"), 1)
	if impl.Crc(b) != 3421780262 {
		t.Error("Crc depends on the capacity")
	}
}

func TestNumResultsShareNoMemory(t *testing.T) {
	b := []byte{2, 'a', 'b'}
	s, _, _ := impl.GetText(b, 0)
	copy(b, "xyz")
	if s != "ab" {
		t.Errorf("text became %q with its argument", s)
	}
	for _, n := range edgeNums() {
		first, second := impl.PutNum(n), impl.PutNum(n)
		want := slices.Clone(second)
		spoil(first)
		if !bytes.Equal(second, want) || !bytes.Equal(impl.PutNum(n), want) {
			t.Errorf("results of PutNum(%d) share memory", n)
		}
	}
	for _, s := range edgeTexts() {
		first, second := impl.PutText(s), impl.PutText(s)
		want := slices.Clone(second)
		spoil(first)
		if !bytes.Equal(second, want) || !bytes.Equal(impl.PutText(s), want) {
			t.Errorf("results of PutText(%q) share memory", s)
		}
	}
	one, two := impl.Parts("a,b", ','), impl.Parts("a,b", ',')
	one[0], one[1] = "x", "y"
	if two[0] != "a" || two[1] != "b" {
		t.Error("results of Parts share memory")
	}
}

// spoil overwrites a slice and its unused capacity.
func spoil(b []byte) {
	b = b[:cap(b)]
	for i := range b {
		b[i] ^= 255
	}
}
