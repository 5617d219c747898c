package impl

import "strconv"

const (
	maxNumber   = 999999
	maxNum      = 2147483647
	maxNumBytes = 5
)

// badNumber is what the readers of this layer panic with. Each exported reader
// recovers it, so a failure at any depth becomes the same zero result.
type badNumber struct{}

func Digits(n int) string { return strconv.Itoa(n) }

func Number(s string) (n int, ok bool) {
	defer func() {
		if recover() != nil {
			n, ok = 0, false
		}
	}()
	return mustNumber(s), true
}

func mustNumber(s string) int {
	n := 0
	for i := 0; i < len(s); i++ {
		n = n*10 + mustDigit(s[i])
		// Checked at every digit, because a long s would wrap around.
		if n > maxNumber {
			panic(badNumber{})
		}
	}
	// The empty string and leading zeros give an n with another representation.
	if Digits(n) != s {
		panic(badNumber{})
	}
	return n
}

func mustDigit(c byte) int {
	if c < '0' || c > '9' {
		panic(badNumber{})
	}
	return int(c - '0')
}

func PutNum(n int) []byte {
	if n < 0 || n > maxNum {
		return nil
	}
	var out []byte
	for n >= 128 {
		out = append(out, byte(n%128)+128)
		n /= 128
	}
	return append(out, byte(n))
}

func GetNum(b []byte, at int) (n int, next int, ok bool) {
	defer func() {
		if recover() != nil {
			n, next, ok = 0, 0, false
		}
	}()
	n, next = mustNum(b, at)
	return n, next, true
}

func mustNum(b []byte, at int) (int, int) {
	if at < 0 || at >= len(b) {
		panic(badNumber{})
	}
	n := 0
	for i, c := range b[at:min(at+maxNumBytes, len(b))] {
		n |= int(c%128) << (7 * i)
		if c < 128 {
			return mustShortest(n, i+1), at + i + 1
		}
	}
	panic(badNumber{})
}

// mustShortest also rejects an n beyond the limit, since PutNum gives no bytes
// for it.
func mustShortest(n int, size int) int {
	if len(PutNum(n)) != size {
		panic(badNumber{})
	}
	return n
}

func PutText(s string) []byte {
	return append(PutNum(len(s)), s...)
}

func GetText(b []byte, at int) (s string, next int, ok bool) {
	defer func() {
		if recover() != nil {
			s, next, ok = "", 0, false
		}
	}()
	s, next = mustText(b, at)
	return s, next, true
}

func mustText(b []byte, at int) (string, int) {
	size, from := mustNum(b, at)
	// A slice expression alone would read on into the unused capacity of b.
	if size > len(b)-from {
		panic(badNumber{})
	}
	return string(b[from : from+size]), from + size
}

func Parts(s string, by byte) []string {
	var list []string
	from := 0
	for i := 0; i < len(s); i++ {
		if s[i] == by {
			list = append(list, s[from:i])
			from = i + 1
		}
	}
	return append(list, s[from:])
}

func Crc(b []byte) int {
	sum := uint32(4294967295)
	for _, c := range b {
		sum = crcByte(sum, c)
	}
	return int(sum ^ 4294967295)
}

func crcByte(sum uint32, c byte) uint32 {
	sum ^= uint32(c)
	for range 8 {
		out := sum & 1
		sum >>= 1
		if out == 1 {
			sum ^= 3988292384
		}
	}
	return sum
}
