package crc_test

import (
	"bytes"
	"math"
	"slices"
	"strings"
	"testing"

	"omnibus/crc"
)

// texts are ordinary ones and the edges: empty, of one byte, of noughts, of ones, of bytes that are no UTF-8.
func texts() []string {
	all := make([]byte, 256)
	for i := range all {
		all[i] = byte(i)
	}
	return []string{
		"", "a", "ab", "123456789", "\x00", "\xff", "\x00\x00\x00", "\xff\xff",
		"\x80\xfe\xc3", "größe", string(all), strings.Repeat("slot ", 200),
	}
}

// numbers are registers, masks and places of all kinds.
func numbers() []int {
	return []int{
		0, 1, 4129, 32767, 32768, 65534, 65535, 65536, 65537, 131071, 1 << 31, 1 << 32,
		-1, -2, -32768, -65535, -65536, -65537, math.MaxInt, math.MinInt, math.MinInt + 1,
	}
}

// rest is what x leaves, divided by 65536, not below 0.
func rest(x int) int {
	return (x%65536 + 65536) % 65536
}

// bitsOf are a text's bits, bit 0 first.
func bitsOf(s string) []bool {
	var l []bool
	for _, b := range []byte(s) {
		for place := 7; place >= 0; place-- {
			l = append(l, b>>place&1 == 1)
		}
	}
	return l
}

func textOf(bits []bool) string {
	text := make([]byte, len(bits)/8)
	for i, set := range bits {
		if set {
			text[i/8] += byte(1 << (7 - i%8))
		}
	}
	return string(text)
}

// behind is A1's register, as its words say it.
func behind(r int, s string) int {
	r = rest(r)
	for _, bit := range bitsOf(s) {
		unlike := bit != (r >= 32768)
		r = r * 2 % 65536
		if unlike {
			r ^= 4129
		}
	}
	return r
}

// turned is A3's text, as its words say it.
func turned(s string, at, mask int) string {
	bits := bitsOf(s)
	if at < 0 || at >= len(bits) {
		return s
	}
	for i := 0; i < 16 && at+i < len(bits); i++ {
		if rest(mask)>>(15-i)&1 == 1 {
			bits[at+i] = !bits[at+i]
		}
	}
	return textOf(bits)
}

func TestA1New(t *testing.T) {
	if got := crc.New(); got != 65535 {
		t.Error(got)
	}
}

func TestA1Sum(t *testing.T) {
	for s, want := range map[string]int{
		"": 65535, "123456789": 10673, "A": 0xb915, "\x00": 0xe1f0, "\xff": 0xff00, "\xff\xff": 0,
	} {
		if got := crc.Sum(s); got != want {
			t.Errorf("%q: %d, not %d", s, got, want)
		}
	}
	for _, s := range texts() {
		if got, want := crc.Sum(s), crc.Add(crc.New(), s); got != want {
			t.Errorf("%q: %d, not %d", s, got, want)
		}
	}
}

func TestA1Add(t *testing.T) {
	for s, want := range map[string]int{
		"": 0, "\x00": 0, "\x01": 4129, "\x80": 0x9188, "\x00\x01": 4129, "123456789": 0x31c3,
	} {
		if got := crc.Add(0, s); got != want {
			t.Errorf("%q: %d, not %d", s, got, want)
		}
	}
	for _, r := range numbers() {
		for _, s := range texts() {
			if got, want := crc.Add(r, s), behind(r, s); got != want {
				t.Errorf("%d %q: %d, not %d", r, s, got, want)
			}
		}
	}
	for b := range 256 {
		s := string([]byte{byte(b)})
		for _, r := range []int{0, 65535, 32768, 12345} {
			if got, want := crc.Add(r, s), behind(r, s); got != want {
				t.Errorf("%d %q: %d, not %d", r, s, got, want)
			}
		}
	}
}

func TestA1AddIsWithinARegister(t *testing.T) {
	for _, r := range numbers() {
		if got := crc.Add(r, ""); got != rest(r) {
			t.Errorf("%d: %d, not %d", r, got, rest(r))
		}
		for _, s := range texts() {
			if got := crc.Add(r, s); got < 0 || got > 65535 {
				t.Errorf("%d %q: %d", r, s, got)
			}
			for _, far := range []int{-65536, 65536, 3 << 16} {
				if a, b := crc.Add(rest(r), s), crc.Add(rest(r)+far, s); a != b {
					t.Errorf("%d %d %q: %d and %d", r, far, s, a, b)
				}
			}
		}
	}
}

func TestA1AddInParts(t *testing.T) {
	for _, s := range texts() {
		for cut := range len(s) + 1 {
			if got, want := crc.Add(crc.Add(crc.New(), s[:cut]), s[cut:]), crc.Sum(s); got != want {
				t.Errorf("%q at %d: %d, not %d", s, cut, got, want)
			}
		}
	}
}

func TestA2Close(t *testing.T) {
	for s, want := range map[string]string{
		"": "\xff\xff", "123456789": "123456789\x29\xb1", "A": "A\xb9\x15", "\xff\xff": "\xff\xff\x00\x00",
	} {
		if got := crc.Close(s); got != want {
			t.Errorf("%q: %q, not %q", s, got, want)
		}
	}
	for _, s := range texts() {
		sum := crc.Sum(s)
		want := s + string([]byte{byte(sum / 256), byte(sum % 256)})
		if got := crc.Close(s); got != want {
			t.Errorf("%q: %q, not %q", s, got, want)
		}
	}
}

func TestA2OpenTellsFalse(t *testing.T) {
	for _, s := range []string{
		"", "\x00", "\xff", "a", // fewer than two bytes
		"\x00\x00", "\xff\xfe", "\xfe\xff", "ab",
		"123456789", "123456789\xb1\x29", "123456789\x29\xb0", "123456789\x28\xb1", "123456789\x29", "23456789\x29\xb1", "123456789\x29\xb1\x01",
	} {
		if got, is := crc.Open(s); got != "" || is {
			t.Errorf("%q: %q, %t", s, got, is)
		}
	}
}

// Of two bytes behind a text just one pair is right.
func TestA2OpenTakesOnlyTheSum(t *testing.T) {
	for _, s := range []string{"", "x", "123456789"} {
		for sum := range 65536 {
			got, is := crc.Open(s + string([]byte{byte(sum / 256), byte(sum % 256)}))
			if sum == crc.Sum(s) && (got != s || !is) || sum != crc.Sum(s) && (got != "" || is) {
				t.Fatalf("%q %d: %q, %t", s, sum, got, is)
			}
		}
	}
}

func TestA3Burst(t *testing.T) {
	for _, x := range []struct {
		s        string
		at, mask int
		want     string
	}{
		{"\x00\x00\x00", 0, 32768, "\x80\x00\x00"},
		{"\x00\x00\x00", 0, 1, "\x00\x01\x00"},
		{"\x00\x00\x00", 7, 1, "\x00\x00\x02"},
		{"\x00\x00\x00", 4, 65535, "\x0f\xff\xf0"},
		{"\xff\xff\xff", 4, 65535, "\xf0\x00\x0f"},
		{"\x00\x00\x00", 8, 65535, "\x00\xff\xff"},
		{"\x00\x00\x00", 9, 65535, "\x00\x7f\xff"}, // the last bits: what is not there is left out
		{"\x00\x00\x00", 23, 65535, "\x00\x00\x01"},
		{"\x00\x00\x00", 23, 32767, "\x00\x00\x00"},
		{"\x00\x00\x00", 24, 65535, "\x00\x00\x00"},
		{"\x00\x00\x00", math.MaxInt, 65535, "\x00\x00\x00"},
		{"\x00\x00\x00", -1, 65535, "\x00\x00\x00"},
		{"\x00\x00\x00", -8, 65535, "\x00\x00\x00"},
		{"\x00\x00\x00", math.MinInt, 65535, "\x00\x00\x00"},
		{"\x00\x00\x00", 0, -1, "\xff\xff\x00"},
		{"\x00\x00\x00", 0, -32768, "\x80\x00\x00"},
		{"\x00\x00\x00", 0, 65536, "\x00\x00\x00"},
		{"\x00\x00\x00", 0, 65537, "\x00\x01\x00"},
		{"", 0, 65535, ""},
		{"\x00", 0, 65535, "\xff"},
		{"abc", 3, 0, "abc"},
	} {
		if got := crc.Burst(x.s, x.at, x.mask); got != x.want {
			t.Errorf("%q %d %d: %q, not %q", x.s, x.at, x.mask, got, x.want)
		}
	}
}

func TestA3BurstTurnsWhatItsWordsSay(t *testing.T) {
	masks := append(numbers(), 32768+1, 40000, 21845, 43690)
	for _, s := range texts() {
		bits := 8 * len(s)
		places := append(numbers(), bits-17, bits-16, bits-15, bits-2, bits-1, bits, bits+1, 3, 7, 8, 9)
		for _, at := range places {
			for _, mask := range masks {
				got, want := crc.Burst(s, at, mask), turned(s, at, mask)
				if got != want {
					t.Fatalf("%q %d %d: %q, not %q", s, at, mask, got, want)
				}
				if back := crc.Burst(got, at, mask); back != s {
					t.Fatalf("%q %d %d: twice %q", s, at, mask, back)
				}
			}
		}
	}
}

func TestA4OpenUndoesClose(t *testing.T) {
	for _, s := range texts() {
		for _, closed := range []string{crc.Close(s), crc.Close(crc.Close(s))} {
			got, is := crc.Open(closed)
			if want := closed[:len(closed)-2]; got != want || !is {
				t.Errorf("%q: %q, %t", closed, got, is)
			}
		}
	}
}

// Every burst of a short text is tried, and those of longer ones by masks of all kinds.
func TestA4SpoiltTextsAreTold(t *testing.T) {
	for _, s := range []string{"", "a", "\x00\x00", "abc"} {
		closed := crc.Close(s)
		for at := range 8 * len(closed) {
			for mask := range 65536 {
				spoiltIsTold(t, s, closed, at, mask)
			}
		}
	}
	for _, s := range texts() {
		closed := crc.Close(s)
		for at := -1; at <= 8*len(closed); at++ {
			for _, mask := range []int{0, 1, 32768, 32769, 65535, 4129, -1, 65536, -65536 + 7} {
				spoiltIsTold(t, s, closed, at, mask)
			}
		}
	}
}

func spoiltIsTold(t *testing.T, s, closed string, at, mask int) {
	spoilt := crc.Burst(closed, at, mask)
	got, is := crc.Open(spoilt)
	if spoilt == closed && (got != s || !is) || spoilt != closed && (got != "" || is) {
		t.Fatalf("%q %d %d: %q, %t", s, at, mask, got, is)
	}
}

func TestA4SumOfTheExclusiveOr(t *testing.T) {
	for _, a := range texts() {
		for _, b := range texts() {
			if len(a) > len(b) {
				a, b = b, a
			}
			b = b[:len(a)]
			both := make([]byte, len(a))
			for i := range both {
				both[i] = a[i] ^ b[i]
			}
			noughts := strings.Repeat("\x00", len(a))
			if got, want := crc.Sum(string(both)), crc.Sum(a)^crc.Sum(b)^crc.Sum(noughts); got != want {
				t.Errorf("%q %q: %d, not %d", a, b, got, want)
			}
		}
	}
}

// R1, R3, R4: at all arguments calls end, answer the same again, and write into nothing that was handed in.
func TestRulesHoldAtAllArguments(t *testing.T) {
	for _, s := range texts() {
		before := bytes.Clone([]byte(s))
		closed := crc.Close(s)
		open, is := crc.Open(s)
		for _, x := range numbers() {
			sum := crc.Add(x, s)
			for _, mask := range numbers() {
				if a, b := crc.Burst(s, x, mask), crc.Burst(s, x, mask); a != b || len(a) != len(s) {
					t.Errorf("%q %d %d: %q and %q", s, x, mask, a, b)
				}
			}
			if again := crc.Add(x, s); again != sum {
				t.Errorf("%d %q: %d, and then %d", x, s, sum, again)
			}
		}
		if again := crc.Close(s); again != closed {
			t.Errorf("%q: %q, and then %q", s, closed, again)
		}
		if again, isAgain := crc.Open(s); again != open || isAgain != is {
			t.Errorf("%q: %q, and then %q", s, open, again)
		}
		if !slices.Equal([]byte(s), before) {
			t.Errorf("%q was written into", before)
		}
	}
}
