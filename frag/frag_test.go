package frag_test

import (
	"math"
	"math/rand"
	"reflect"
	"slices"
	"strings"
	"testing"
	"unsafe"

	"omnibus/api"
	"omnibus/frag"
)

// plain is an ordinary piece, from which others part in one field.
func plain() api.Piece { return api.Piece{Seq: 7, At: 1, Of: 3, Bytes: "cd"} }

// with is the ordinary piece, changed.
func with(change func(p *api.Piece)) api.Piece {
	p := plain()
	change(&p)
	return p
}

func gather(inc, seq int, parts ...string) api.Gather {
	return api.Gather{Inc: inc, Seq: seq, Parts: parts}
}

// numbers are ordinary ones, the edges of all fields, and what goes far beyond.
func numbers() []int {
	return []int{
		-1, 0, 1, 2, 3, 4, 15, 16, 17, 19, 20, 21, 255, 256, 257, 4660, 32768, 65534, 65535, 65536, 65537, 65536 + 7,
		-2, -65535, -65536, 1 << 31, 1 << 32, 1<<32 + 1, math.MaxInt, math.MinInt, math.MinInt + 1,
	}
}

// texts are Bytes of all kinds: none, the edges of how long they are, and bytes that are no UTF-8.
func texts() []string {
	return []string{
		"", "a", "\x00", "\xff\xfe", "größe", strings.Repeat("\x00", 15), strings.Repeat("\xff", 16), strings.Repeat("\x00", 17),
		"0123456789abcdefg", strings.Repeat("x", 20), strings.Repeat("x", 255), strings.Repeat("x", 256), strings.Repeat("x", 272),
	}
}

// pieces part from the ordinary one in each field by itself, or in where they stand, right ones and others.
func pieces() []api.Piece {
	l := []api.Piece{plain(), {}}
	for _, n := range numbers() {
		l = append(l,
			with(func(p *api.Piece) { p.Seq = n }),
			with(func(p *api.Piece) { p.At = n }),
			with(func(p *api.Piece) { p.Of = n }),
			with(func(p *api.Piece) { p.At, p.Of = 0, n }),
			with(func(p *api.Piece) { p.At, p.Of = n, n }),
			with(func(p *api.Piece) { p.At, p.Of = n-1, n }))
	}
	for _, s := range texts() {
		l = append(l, with(func(p *api.Piece) { p.Bytes = s }))
	}
	return l
}

func rightPieces() []api.Piece {
	return slices.DeleteFunc(pieces(), func(p api.Piece) bool { return !right(p) })
}

// gathers are of all kinds: nothing, the edges, and what may not be.
func gathers() []api.Gather {
	l := []api.Gather{{}, {Parts: []string{}}, gather(0, 0, ""), gather(0, 0, "a"), gather(0, 0, "", "")}
	for _, n := range numbers() {
		l = append(l, gather(n, 7, "a", "", "c"), gather(2, n, "a", "", "c"), gather(n, n, "a"), gather(n, 7), gather(2, n))
	}
	for _, many := range []int{0, 1, 2, 3, 19, 20, 21, 22, 300} {
		full := slices.Repeat([]string{"ab"}, many)
		l = append(l, gather(2, 7, full...), gather(2, 7, make([]string, many)...))
		if many > 0 {
			first, last, long := make([]string, many), make([]string, many), slices.Clone(full)
			first[0], last[many-1], long[many/2] = "x", "0123456789abcdef", "0123456789abcdefg"
			l = append(l, gather(2, 7, first...), gather(2, 7, last...), gather(2, 7, long...))
		}
	}
	for _, s := range texts() {
		l = append(l, gather(2, 7, s), gather(2, 7, "a", s), gather(2, 7, s, "", "c"), gather(1, 65535, s, s))
	}
	return l
}

func counted(n int) bool { return n >= 1 && n <= 65535 }

// right is E1's, by its words.
func right(p api.Piece) bool {
	return counted(p.Seq) && p.Of >= 1 && p.Of <= 20 && p.At >= 0 && p.At <= p.Of-1 && len(p.Bytes) >= 1 && len(p.Bytes) <= 16
}

// may is E1's, by its words.
func may(g api.Gather) bool {
	if g.Inc == 0 && g.Seq == 0 {
		return len(g.Parts) == 0
	}
	all := strings.Join(g.Parts, "")
	for _, part := range g.Parts {
		if len(part) > 16 {
			return false
		}
	}
	return counted(g.Inc) && counted(g.Seq) && len(g.Parts) >= 1 && len(g.Parts) <= 20 && all != ""
}

// split is E2's, by its words.
func split(seq int, s string, size int) ([]api.Piece, api.Errno) {
	if !counted(seq) || len(s) < 1 || len(s) > 20 || size < 1 || size > 16 {
		return nil, api.ErrArg
	}
	var cut []string
	for len(s) > size {
		cut = append(cut, s[:size])
		s = s[size:]
	}
	cut = append(cut, s)
	var l []api.Piece
	for at, part := range cut {
		l = append(l, api.Piece{Seq: seq, At: at, Of: len(cut), Bytes: part})
	}
	return l, api.OK
}

// put is E3's, by its words.
func put(g api.Gather, inc int, p api.Piece) (api.Gather, api.Errno) {
	if !may(g) || !right(p) || !counted(inc) {
		return g, api.ErrArg
	}
	if g.Inc > inc || g.Inc == inc && g.Seq > p.Seq {
		return g, api.OK
	}
	out := gather(inc, p.Seq, make([]string, p.Of)...)
	if g.Inc == inc && g.Seq == p.Seq && len(g.Parts) == p.Of {
		copy(out.Parts, g.Parts)
	}
	if out.Parts[p.At] == "" {
		out.Parts[p.At] = p.Bytes
	}
	return out, api.OK
}

// whole is E4's, by its words.
func whole(g api.Gather) (string, bool) {
	if !may(g) || len(g.Parts) == 0 {
		return "", false
	}
	all := ""
	for _, part := range g.Parts {
		if part == "" {
			return "", false
		}
		all += part
	}
	return all, true
}

// encoded is E5's, by its words, of a right piece.
func encoded(p api.Piece) string {
	return string([]byte{byte(p.Seq / 256), byte(p.Seq % 256), byte(p.At), byte(p.Of), byte(len(p.Bytes))}) + p.Bytes
}

func same(a, b api.Gather) bool {
	return a.Inc == b.Inc && a.Seq == b.Seq && slices.Equal(a.Parts, b.Parts)
}

func copied(g api.Gather) api.Gather { return gather(g.Inc, g.Seq, slices.Clone(g.Parts)...) }

// shares tells whether bytes of a stand in b's memory.
func shares(a, b string) bool {
	if a == "" || b == "" {
		return false
	}
	first, second := uintptr(unsafe.Pointer(unsafe.StringData(a))), uintptr(unsafe.Pointer(unsafe.StringData(b)))
	return first < second+uintptr(len(b)) && second < first+uintptr(len(a))
}

// fresh is a text in memory of its own, which no constant shares.
func fresh(s string) string { return string([]byte(s)) }

func TestE1Right(t *testing.T) {
	for _, x := range []struct {
		p    api.Piece
		want bool
	}{
		{plain(), true}, {api.Piece{}, false},
		{with(func(p *api.Piece) { p.Seq = -1 }), false}, {with(func(p *api.Piece) { p.Seq = 0 }), false},
		{with(func(p *api.Piece) { p.Seq = 1 }), true}, {with(func(p *api.Piece) { p.Seq = 65535 }), true},
		{with(func(p *api.Piece) { p.Seq = 65536 }), false}, {with(func(p *api.Piece) { p.Seq = math.MaxInt }), false},
		{with(func(p *api.Piece) { p.At, p.Of = 0, 0 }), false}, {with(func(p *api.Piece) { p.At, p.Of = -1, 0 }), false},
		{with(func(p *api.Piece) { p.At, p.Of = 0, 1 }), true}, {with(func(p *api.Piece) { p.At, p.Of = 1, 1 }), false},
		{with(func(p *api.Piece) { p.At, p.Of = 0, 20 }), true}, {with(func(p *api.Piece) { p.At, p.Of = 19, 20 }), true},
		{with(func(p *api.Piece) { p.At, p.Of = 20, 20 }), false}, {with(func(p *api.Piece) { p.At, p.Of = 0, 21 }), false},
		{with(func(p *api.Piece) { p.At, p.Of = 20, 21 }), false}, {with(func(p *api.Piece) { p.Of = math.MaxInt }), false},
		{with(func(p *api.Piece) { p.Of = -3 }), false}, {with(func(p *api.Piece) { p.At, p.Of = math.MinInt, math.MinInt+1 }), false},
		{with(func(p *api.Piece) { p.At = -1 }), false}, {with(func(p *api.Piece) { p.At = 0 }), true},
		{with(func(p *api.Piece) { p.At = 2 }), true}, {with(func(p *api.Piece) { p.At = 3 }), false},
		{with(func(p *api.Piece) { p.At = math.MinInt }), false}, {with(func(p *api.Piece) { p.At = math.MaxInt }), false},
		{with(func(p *api.Piece) { p.Bytes = "" }), false}, {with(func(p *api.Piece) { p.Bytes = "\x00" }), true},
		{with(func(p *api.Piece) { p.Bytes = strings.Repeat("ö", 8) }), true}, {with(func(p *api.Piece) { p.Bytes = strings.Repeat("ö", 8) + "x" }), false},
		{with(func(p *api.Piece) { p.Bytes = strings.Repeat("x", 256+2) }), false},
	} {
		if got := frag.Right(x.p); got != x.want {
			t.Errorf("%v: %t", x.p, got)
		}
	}
	for _, p := range pieces() {
		if got := frag.Right(p); got != right(p) {
			t.Errorf("%v: %t", p, got)
		}
	}
}

func TestE1May(t *testing.T) {
	many := func(n int, s string) []string { return slices.Repeat([]string{s}, n) }
	for _, x := range []struct {
		g    api.Gather
		want bool
	}{
		{api.Gather{}, true}, {api.Gather{Parts: []string{}}, true},
		{gather(0, 0, ""), false}, {gather(0, 0, "a"), false},
		{gather(0, 1), false}, {gather(1, 0), false}, {gather(1, 1), false}, {gather(0, 1, "a"), false}, {gather(1, 0, "a"), false},
		{gather(1, 1, "a"), true}, {gather(65535, 65535, "a"), true},
		{gather(65536, 1, "a"), false}, {gather(1, 65536, "a"), false}, {gather(-1, 1, "a"), false}, {gather(1, -1, "a"), false}, {gather(-1, -1), false},
		{gather(1, 1, many(20, "a")...), true}, {gather(1, 1, many(21, "a")...), false},
		{gather(1, 1, ""), false}, {gather(1, 1, "", "", ""), false}, {gather(1, 1, many(20, "")...), false},
		{gather(1, 1, "", "", "c"), true}, {gather(1, 1, "a", "", ""), true}, {gather(1, 1, append(many(19, ""), "z")...), true},
		{gather(1, 1, strings.Repeat("a", 16)), true}, {gather(1, 1, strings.Repeat("a", 17)), false},
		{gather(1, 1, strings.Repeat("a", 17), "b"), false}, {gather(1, 1, "a", "", strings.Repeat("a", 17)), false},
		{gather(1, 1, many(20, strings.Repeat("a", 16))...), true},
	} {
		if got := frag.May(x.g); got != x.want {
			t.Errorf("%v: %t", x.g, got)
		}
	}
	for _, g := range gathers() {
		if got := frag.May(g); got != may(g) {
			t.Errorf("%v: %t", g, got)
		}
	}
}

func TestE2Split(t *testing.T) {
	twenty := "0123456789abcdefghij"
	for n, x := range []struct {
		seq  int
		s    string
		size int
		want []string // nothing, if it is refused
	}{
		{7, "abcde", 2, []string{"ab", "cd", "e"}},
		{7, "abcdef", 2, []string{"ab", "cd", "ef"}},
		{7, "abcdef", 3, []string{"abc", "def"}},
		{7, "abcdef", 5, []string{"abcde", "f"}},
		{7, "abcdef", 6, []string{"abcdef"}},
		{7, "abcdef", 7, []string{"abcdef"}},
		{1, "a", 1, []string{"a"}},
		{65535, "a", 16, []string{"a"}},
		{7, "\x00\xff\x00", 1, []string{"\x00", "\xff", "\x00"}},
		{7, "öä", 3, []string{"\xc3\xb6\xc3", "\xa4"}},
		{7, twenty, 16, []string{"0123456789abcdef", "ghij"}},
		{7, twenty, 15, []string{"0123456789abcde", "fghij"}},
		{7, twenty, 10, []string{"0123456789", "abcdefghij"}},
		{7, twenty, 1, strings.Split(twenty, "")},
		{7, twenty[:16], 16, []string{"0123456789abcdef"}},
		{7, twenty[:17], 16, []string{"0123456789abcdef", "g"}},
		{0, "a", 1, nil}, {-1, "a", 1, nil}, {65536, "a", 1, nil}, {math.MinInt, "a", 1, nil}, {math.MaxInt, "a", 1, nil},
		{7, "", 1, nil}, {7, twenty + "k", 1, nil}, {7, twenty + "k", 16, nil}, {7, strings.Repeat("x", 256+5), 16, nil},
		{7, "abcde", 0, nil}, {7, "abcde", 17, nil}, {7, "abcde", -1, nil}, {7, "abcde", math.MaxInt, nil}, {7, "abcde", math.MinInt, nil},
		{0, "", 0, nil},
	} {
		l, e := frag.Split(x.seq, x.s, x.size)
		var got []string
		for at, p := range l {
			got = append(got, p.Bytes)
			if p.Seq != x.seq || p.At != at || p.Of != len(x.want) {
				t.Errorf("%d: %v", n, p)
			}
		}
		if !slices.Equal(got, x.want) || (e == api.ErrArg) != (x.want == nil) || e != api.OK && e != api.ErrArg {
			t.Errorf("%d: %q, %d", n, got, e)
		}
	}
}

func TestE2SplitOfAllLengths(t *testing.T) {
	for length := range 30 {
		s := "0123456789abcdefghijklmnopqrstuvwxyz"[:length]
		for _, size := range append(numbers(), 5, 6, 7, 8, 9, 10, 11, 12, 13, 14) {
			for _, seq := range []int{0, 1, 7, 65535, 65536} {
				want, fault := split(seq, s, size)
				l, e := frag.Split(seq, s, size)
				if !slices.Equal(l, want) || e != fault {
					t.Fatalf("%d, %q, %d: %v, %d, not %v, %d", seq, s, size, l, e, want, fault)
				}
				if slices.ContainsFunc(l, func(p api.Piece) bool { return !frag.Right(p) }) {
					t.Errorf("%d, %q, %d: %v", seq, s, size, l)
				}
			}
		}
	}
}

// puts holds an answer of Put against the one that is asked for.
func puts(t *testing.T, g api.Gather, inc int, p api.Piece, want api.Gather, fault api.Errno) {
	t.Helper()
	if got, e := frag.Put(g, inc, p); !same(got, want) || e != fault {
		t.Errorf("%v, %d, %v: %v, %d, not %v, %d", g, inc, p, got, e, want, fault)
	}
}

func TestE3Put(t *testing.T) {
	p := plain() // part 1 of 3 of text 7: `cd`
	for _, x := range []struct {
		name string
		g    api.Gather
		inc  int
		want api.Gather
	}{
		{"nothing was there", api.Gather{}, 2, gather(2, 7, "", "cd", "")},
		{"nothing, the least start", api.Gather{}, 1, gather(1, 7, "", "cd", "")},
		{"nothing, the greatest start", api.Gather{}, 65535, gather(65535, 7, "", "cd", "")},
		{"another part was there", gather(2, 7, "ab", "", ""), 2, gather(2, 7, "ab", "cd", "")},
		{"it is the last one", gather(2, 7, "ab", "", "e"), 2, gather(2, 7, "ab", "cd", "e")},
		{"it is there", gather(2, 7, "", "cd", ""), 2, gather(2, 7, "", "cd", "")},
		{"other bytes are there", gather(2, 7, "", "x", "e"), 2, gather(2, 7, "", "x", "e")},
		{"an older text was there", gather(2, 6, "x", "y", "z"), 2, gather(2, 7, "", "cd", "")},
		{"an older text of other parts", gather(2, 1, "x"), 2, gather(2, 7, "", "cd", "")},
		{"an older start was there", gather(1, 7, "x", "y", "z"), 2, gather(2, 7, "", "cd", "")},
		{"an older start, and a later text", gather(1, 65535, "x", "y", "z"), 2, gather(2, 7, "", "cd", "")},
		{"a newer text is there", gather(2, 8, "x", "", "z"), 2, gather(2, 8, "x", "", "z")},
		{"a newer text of other parts", gather(2, 8, "x"), 2, gather(2, 8, "x")},
		{"a newer start is there", gather(3, 7, "x", "", "z"), 2, gather(3, 7, "x", "", "z")},
		{"a newer start, and an earlier text", gather(3, 1, "x", "", "z"), 2, gather(3, 1, "x", "", "z")},
		{"a newer start, the greatest", gather(65535, 1, "x"), 65534, gather(65535, 1, "x")},
		{"fewer parts", gather(2, 7, "x", "y"), 2, gather(2, 7, "", "cd", "")},
		{"more parts", gather(2, 7, "x", "y", "z", ""), 2, gather(2, 7, "", "cd", "")},
		{"fewer than where it stands", gather(2, 7, "x"), 2, gather(2, 7, "", "cd", "")},
	} {
		t.Run(x.name, func(t *testing.T) { puts(t, x.g, x.inc, p, x.want, api.OK) })
	}
	puts(t, api.Gather{}, 1, api.Piece{Seq: 1, Of: 1, Bytes: "a"}, gather(1, 1, "a"), api.OK)
	last := make([]string, 20)
	last[19] = "0123456789abcdef"
	puts(t, api.Gather{}, 1, api.Piece{Seq: 65535, At: 19, Of: 20, Bytes: last[19]}, gather(1, 65535, last...), api.OK)
}

// With an error what was gathered is as it was.
func TestE3PutRefused(t *testing.T) {
	g := gather(2, 7, "ab", "", "")
	for _, inc := range []int{0, -1, 65536, math.MinInt, math.MaxInt} {
		puts(t, g, inc, plain(), g, api.ErrArg)
		puts(t, api.Gather{}, inc, plain(), api.Gather{}, api.ErrArg)
	}
	for _, p := range pieces() {
		if !right(p) {
			puts(t, g, 2, p, g, api.ErrArg)
			puts(t, api.Gather{}, 2, p, api.Gather{}, api.ErrArg)
		}
	}
	for _, g := range gathers() {
		if !may(g) {
			puts(t, g, 2, plain(), g, api.ErrArg)
			puts(t, g, 65535, plain(), g, api.ErrArg)
		}
	}
}

func TestE3PutOfAllToAll(t *testing.T) {
	for _, g := range gathers() {
		for _, p := range pieces() {
			for _, inc := range []int{-1, 0, 1, 2, 3, 65535, 65536} {
				want, fault := put(g, inc, p)
				puts(t, g, inc, p, want, fault)
			}
		}
	}
}

// What was put may be gathered on, whatever came ahead of it.
func TestE3PutOnAndOn(t *testing.T) {
	chance := rand.New(rand.NewSource(8))
	for range 300 {
		var g api.Gather
		for range 100 {
			inc := chance.Intn(4)
			p := api.Piece{Seq: chance.Intn(4), At: chance.Intn(4), Of: chance.Intn(4), Bytes: "abcd"[:chance.Intn(4)]}
			want, fault := put(g, inc, p)
			got, e := frag.Put(g, inc, p)
			if !same(got, want) || e != fault || !frag.May(got) {
				t.Fatalf("%v, %d, %v: %v, %d, not %v, %d", g, inc, p, got, e, want, fault)
			}
			g = got
		}
	}
}

func TestE4Whole(t *testing.T) {
	for _, x := range []struct {
		g    api.Gather
		s    string
		want bool
	}{
		{api.Gather{}, "", false}, {api.Gather{Parts: []string{}}, "", false},
		{gather(1, 1, "a"), "a", true}, {gather(2, 7, "ab", "cd", "e"), "abcde", true}, {gather(65535, 65535, "\x00", "\xff"), "\x00\xff", true},
		{gather(1, 1, "", "b"), "", false}, {gather(1, 1, "a", ""), "", false}, {gather(1, 1, "a", "", "c"), "", false},
		{gather(1, 1, slices.Repeat([]string{"a"}, 20)...), strings.Repeat("a", 20), true},
		{gather(1, 1, append(slices.Repeat([]string{"a"}, 19), "")...), "", false},
		{gather(1, 1, slices.Repeat([]string{strings.Repeat("x", 16)}, 20)...), strings.Repeat("x", 320), true},
		{gather(1, 1), "", false}, {gather(1, 1, ""), "", false}, {gather(1, 1, slices.Repeat([]string{"a"}, 21)...), "", false},
		{gather(1, 1, "a", strings.Repeat("x", 17)), "", false}, {gather(0, 0, "a"), "", false},
		{gather(0, 1, "a"), "", false}, {gather(1, 0, "a"), "", false}, {gather(65536, 1, "a"), "", false}, {gather(1, 65536, "a"), "", false},
	} {
		if s, is := frag.Whole(x.g); s != x.s || is != x.want {
			t.Errorf("%v: %q, %t", x.g, s, is)
		}
	}
	for _, g := range gathers() {
		want, should := whole(g)
		if s, is := frag.Whole(g); s != want || is != should {
			t.Errorf("%v: %q, %t, not %q, %t", g, s, is, want, should)
		}
	}
}

func TestE5Encode(t *testing.T) {
	for n, x := range []struct {
		p api.Piece
		s string
	}{
		{plain(), "\x00\x07\x01\x03\x02cd"},
		{with(func(p *api.Piece) { p.Seq = 258 }), "\x01\x02\x01\x03\x02cd"},
		{with(func(p *api.Piece) { p.Seq = 1 }), "\x00\x01\x01\x03\x02cd"},
		{with(func(p *api.Piece) { p.Seq = 256 }), "\x01\x00\x01\x03\x02cd"},
		{with(func(p *api.Piece) { p.Seq = 65535 }), "\xff\xff\x01\x03\x02cd"},
		{with(func(p *api.Piece) { p.At, p.Of = 0, 1 }), "\x00\x07\x00\x01\x02cd"},
		{with(func(p *api.Piece) { p.At, p.Of = 19, 20 }), "\x00\x07\x13\x14\x02cd"},
		{with(func(p *api.Piece) { p.Bytes = "\x00" }), "\x00\x07\x01\x03\x01\x00"},
		{with(func(p *api.Piece) { p.Bytes = "0123456789abcdef" }), "\x00\x07\x01\x03\x100123456789abcdef"},
	} {
		if s, e := frag.Encode(x.p); s != x.s || e != api.OK {
			t.Errorf("%d: %x, %d, not %x", n, s, e, x.s)
		}
	}
	for _, p := range pieces() {
		want, fault := "", api.ErrArg
		if right(p) {
			want, fault = encoded(p), api.OK
		}
		if s, e := frag.Encode(p); s != want || e != fault {
			t.Errorf("%v: %x, %d, not %x, %d", p, s, e, want, fault)
		}
	}
}

// decodes holds an answer of Decode against the one that is asked for.
func decodes(t *testing.T, s string, want api.Piece, behind string, fault api.Errno) {
	t.Helper()
	if p, rest, e := frag.Decode(s); p != want || rest != behind || e != fault {
		t.Errorf("%x: %v, %x, %d, not %v, %x, %d", s, p, rest, e, want, behind, fault)
	}
}

// refused is an error with nothing beside it.
func refused(t *testing.T, s string, fault api.Errno) {
	t.Helper()
	decodes(t, s, api.Piece{}, "", fault)
}

func TestE5DecodeOfFewBytes(t *testing.T) {
	for _, head := range []string{encoded(plain()), "\xff\xff\xff\xff\xff", "\x00\x00\x00\x00\x00"} {
		for cut := range 5 {
			refused(t, head[:cut], api.ErrShort)
		}
	}
}

func TestE5DecodeOfTheFifthByte(t *testing.T) {
	for size := range 256 {
		told := "\x00\x07\x01\x03" + string([]byte{byte(size)})
		for there := range 20 {
			bytes := "abcdefghijklmnopqrst"[:there]
			switch {
			case size > 16:
				refused(t, told+bytes, api.ErrForm)
			case there < size:
				refused(t, told+bytes, api.ErrShort)
			case size == 0:
				refused(t, told+bytes, api.ErrForm)
			default:
				decodes(t, told+bytes, with(func(p *api.Piece) { p.Bytes = bytes[:size] }), bytes[size:], api.OK)
			}
		}
	}
	// All that is told is there, and yet it is too much.
	refused(t, "\x00\x07\x01\x03\x11"+strings.Repeat("x", 300), api.ErrForm)
	refused(t, "\x00\x07\x01\x03\xff"+strings.Repeat("x", 300), api.ErrForm)
}

// The errors' order: what is told too much comes ahead of what is cut, and that ahead of what is not right.
func TestE5DecodeNamesTheFirstError(t *testing.T) {
	wrong := "\x00\x00\xff\x00"
	refused(t, wrong, api.ErrShort)
	refused(t, wrong+"\x11", api.ErrForm)
	refused(t, wrong+"\x10", api.ErrShort)
	refused(t, wrong+"\x10"+"0123456789abcde", api.ErrShort)
	refused(t, wrong+"\x10"+"0123456789abcdef", api.ErrForm)
	refused(t, wrong+"\x00", api.ErrForm)
}

func TestE5DecodeCutAnywhere(t *testing.T) {
	for _, p := range rightPieces() {
		s := encoded(p)
		for cut := range len(s) {
			refused(t, s[:cut], api.ErrShort)
		}
		decodes(t, s, p, "", api.OK)
	}
}

func TestE5DecodeOfWhatIsNotRight(t *testing.T) {
	for _, s := range []string{
		"\x00\x00\x01\x03\x02cd",         // Seq 0
		"\x00\x07\x00\x00\x02cd",         // Of 0
		"\x00\x07\x01\x15\x02cd",         // Of 21
		"\x00\x07\x01\xff\x02cd",         // Of 255
		"\x00\x07\x03\x03\x02cd",         // At is Of
		"\x00\x07\x04\x03\x02cd",         // At beyond Of
		"\x00\x07\xff\x03\x02cd",         // At 255: -1, if it were signed
		"\x00\x07\x01\x03\x00",           // no Bytes
		"\x00\x00\x00\x00\x00",           // all noughts
		"\x00\x00\x00\x00\x02\x00\x00",   // noughts, and Bytes
		"\xff\xff\xff\xff\x02\xff\xff",   // all ones
		"\x00\x07\x14\x14\x02cd",         // At 20 of 20
		"\x00\x07\x14\x15\x02cd",         // At 20 of 21
		"\x00\x07\x01\x03\x11" + "x",     // Bytes beyond 16
		"\x00\x07\x01\x01\x01a",          // At 1 of 1
		"\x00\x00\x00\x01\x01a\x00\x00a", // Seq 0, and more behind
	} {
		refused(t, s, api.ErrForm)
		refused(t, s+"more", api.ErrForm)
	}
	for s, change := range map[string]func(p *api.Piece){
		"\x00\x01\x01\x03\x02cd": func(p *api.Piece) { p.Seq = 1 },
		"\xff\xff\x01\x03\x02cd": func(p *api.Piece) { p.Seq = 65535 },
		"\x12\x34\x01\x03\x02cd": func(p *api.Piece) { p.Seq = 4660 },
		"\x00\x07\x00\x01\x02cd": func(p *api.Piece) { p.At, p.Of = 0, 1 },
		"\x00\x07\x02\x03\x02cd": func(p *api.Piece) { p.At = 2 },
		"\x00\x07\x13\x14\x02cd": func(p *api.Piece) { p.At, p.Of = 19, 20 },
		"\x00\x07\x01\x03\x01\xff": func(p *api.Piece) {
			p.Bytes = "\xff"
		},
	} {
		decodes(t, s, with(change), "", api.OK)
	}
}

// decodesBack tells what is asked for by E5's words.
func decodesBack(t *testing.T, s string) {
	t.Helper()
	if len(s) < 5 {
		refused(t, s, api.ErrShort)
		return
	}
	size := int(s[4])
	if size > 16 {
		refused(t, s, api.ErrForm)
		return
	}
	if len(s)-5 < size {
		refused(t, s, api.ErrShort)
		return
	}
	p := api.Piece{Seq: int(s[0])*256 + int(s[1]), At: int(s[2]), Of: int(s[3]), Bytes: s[5 : 5+size]}
	if !right(p) {
		refused(t, s, api.ErrForm)
		return
	}
	decodes(t, s, p, s[5+size:], api.OK)
}

// Any byte of a piece's is set to any other one: just what is right comes out.
func TestE5DecodeOfManyTexts(t *testing.T) {
	for _, first := range []api.Piece{plain(), {Seq: 65535, At: 19, Of: 20, Bytes: "0123456789abcdef"}, {Seq: 256, At: 0, Of: 1, Bytes: "a"}} {
		s := encoded(first)
		for at := range s {
			for b := range 256 {
				decodesBack(t, s[:at]+string([]byte{byte(b)})+s[at+1:]+"behind")
			}
		}
	}
	chance := rand.New(rand.NewSource(9))
	for range 20000 {
		b := make([]byte, chance.Intn(30))
		for k := range b {
			b[k] = byte(chance.Intn(256)) & byte(chance.Intn(256)) & byte(chance.Intn(256))
		}
		decodesBack(t, string(b))
	}
}

// gathered is what is put together of pieces; whole is it from where the last one that was missing came.
func gathered(t *testing.T, inc int, s string, order []api.Piece) {
	t.Helper()
	var g api.Gather
	missing := map[int]bool{}
	for at := range order[0].Of {
		missing[at] = true
	}
	for _, p := range order {
		var e api.Errno
		g, e = frag.Put(g, inc, p)
		delete(missing, p.At)
		text, is := frag.Whole(g)
		if e != api.OK || is != (len(missing) == 0) || is && text != s || !is && text != "" {
			t.Fatalf("%v: %v is %q, %t, %d", order, g, text, is, e)
		}
	}
	if len(missing) > 0 {
		t.Fatalf("%v: not all pieces", order)
	}
}

func TestE6WhatWasSplitIsWholeAgain(t *testing.T) {
	chance := rand.New(rand.NewSource(10))
	for length := 1; length <= 20; length++ {
		b := make([]byte, length)
		chance.Read(b)
		s := string(b)
		for size := 1; size <= 16; size++ {
			l, e := frag.Split(1+chance.Intn(65535), s, size)
			if e != api.OK {
				t.Fatalf("%q, %d: %d", s, size, e)
			}
			inc := 1 + chance.Intn(65535)
			gathered(t, inc, s, l)
			for range 20 {
				twice := append(slices.Clone(l), l[:chance.Intn(len(l)+1)]...)
				chance.Shuffle(len(twice), func(i, k int) { twice[i], twice[k] = twice[k], twice[i] })
				gathered(t, inc, s, twice)
			}
		}
	}
}

// All orders of few pieces.
func TestE6WholeInAllOrders(t *testing.T) {
	l, _ := frag.Split(7, "abcdefg", 2)
	var orders func(ahead, left []api.Piece)
	orders = func(ahead, left []api.Piece) {
		if len(left) == 0 {
			gathered(t, 2, "abcdefg", ahead)
		}
		for k, p := range left {
			orders(append(slices.Clone(ahead), p), slices.Delete(slices.Clone(left), k, k+1))
		}
	}
	orders(nil, l)
}

func TestE6OlderPiecesChangeNothing(t *testing.T) {
	l, _ := frag.Split(300, "abcdefghijklmnopqrst", 3)
	var g api.Gather
	for _, p := range l {
		g, _ = frag.Put(g, 5, p)
		for _, old := range []struct{ inc, seq int }{{5, 299}, {5, 1}, {4, 300}, {4, 301}, {4, 65535}, {1, 1}, {1, 65535}} {
			for _, size := range []int{1, 3, 16} {
				other, _ := frag.Split(old.seq, "ABCDEFGHIJKLMNOPQRST", size)
				for _, q := range other {
					puts(t, g, old.inc, q, g, api.OK)
				}
			}
		}
	}
	if s, is := frag.Whole(g); s != "abcdefghijklmnopqrst" || !is {
		t.Errorf("%q, %t", s, is)
	}
}

func TestE6DecodeUndoesEncode(t *testing.T) {
	behind := []string{"", "\x00", "more", "\xff\xff", strings.Repeat("\x09", 40), encoded(plain())}
	for _, p := range rightPieces() {
		s, e := frag.Encode(p)
		if e != api.OK {
			t.Errorf("%v: %d", p, e)
		}
		for _, more := range behind {
			decodes(t, s+more, p, more, api.OK)
		}
	}
}

// Pieces' bytes, one behind the other, are told one by one, and are whole again.
func TestE6SplitEncodeDecodePut(t *testing.T) {
	text := "\x00\xff and what follows"
	for size := 1; size <= 16; size++ {
		l, _ := frag.Split(65535, text, size)
		sent := ""
		for _, p := range l {
			s, _ := frag.Encode(p)
			sent += s
		}
		var g api.Gather
		for sent != "" {
			p, rest, e := frag.Decode(sent)
			if e != api.OK {
				t.Fatalf("%d: %x: %d", size, sent, e)
			}
			g, _ = frag.Put(g, 1, p)
			sent = rest
		}
		if s, is := frag.Whole(g); s != text || !is {
			t.Errorf("%d: %q, %t", size, s, is)
		}
	}
}

// R3: what is handed in stays as it was, what stands behind it too.
func TestWhatIsHandedInStays(t *testing.T) {
	for _, g := range gathers() {
		parts := append(slices.Clone(g.Parts), "behind", "it")
		before := slices.Clone(parts)
		g.Parts = parts[:len(g.Parts)]
		for _, p := range pieces() {
			for _, inc := range []int{0, 1, 2, 3, 65535} {
				frag.Put(g, inc, p)
			}
		}
		frag.May(g)
		frag.Whole(g)
		if !slices.Equal(parts, before) {
			t.Fatalf("%v: %v", before, parts)
		}
	}
	for _, p := range rightPieces() {
		s := fresh(encoded(p) + "more")
		kept := strings.Clone(s)
		frag.Decode(s)
		if s != kept {
			t.Errorf("%v: %x", p, s)
		}
	}
}

// overwrite writes into a list, and into its spare room.
func overwrite(l []string) {
	for k := range l[:cap(l)] {
		l[:cap(l)][k] = "written"
	}
}

// R3: what comes out of Put is its owner's, spare room too.
func TestWhatPutAnswersIsNewMemory(t *testing.T) {
	for _, x := range []struct {
		name string
		g    api.Gather
		p    api.Piece
	}{
		{"another part", gather(2, 7, fresh("ab"), "", ""), plain()},
		{"it is there", gather(2, 7, fresh("ab"), fresh("xy"), ""), plain()},
		{"older", gather(2, 8, fresh("ab"), ""), plain()},
		{"newer", gather(2, 6, fresh("ab"), "", fresh("ef")), plain()},
		{"other parts", gather(2, 7, fresh("ab"), fresh("cd")), plain()},
	} {
		x.g.Parts = append(x.g.Parts, "spare", "room")[:len(x.g.Parts)]
		x.p.Bytes = fresh(x.p.Bytes)
		before := slices.Clone(x.g.Parts[:cap(x.g.Parts)])
		want, _ := put(copied(x.g), 2, x.p)
		first, _ := frag.Put(x.g, 2, x.p)
		second, _ := frag.Put(x.g, 2, x.p)
		for _, s := range first.Parts {
			if shares(s, x.p.Bytes) || slices.ContainsFunc(x.g.Parts, func(part string) bool { return shares(s, part) }) {
				t.Errorf("%s: %q is what was handed in", x.name, s)
			}
		}
		overwrite(first.Parts)
		if !slices.Equal(x.g.Parts[:cap(x.g.Parts)], before) || !same(second, want) {
			t.Errorf("%s: %v, %v", x.name, x.g, second)
		}
		puts(t, x.g, 2, x.p, want, api.OK)
	}
}

func TestWhatComesOutIsNewMemory(t *testing.T) {
	s := fresh("abcdefghij")
	first, _ := frag.Split(7, s, 3)
	second, _ := frag.Split(7, s, 3)
	for k, p := range first[:len(first):len(first)] {
		if shares(p.Bytes, s) || shares(p.Bytes, second[k].Bytes) {
			t.Errorf("%v: a piece of what was handed in", p)
		}
	}
	for k := range first[:cap(first)] {
		first[:cap(first)][k] = api.Piece{}
	}
	if want, _ := split(7, s, 3); !slices.Equal(second, want) {
		t.Errorf("%v", second)
	}
	for _, g := range []api.Gather{gather(1, 1, fresh("abc")), gather(1, 1, fresh("abc"), fresh("de"))} {
		text, is := frag.Whole(g)
		if !is || slices.ContainsFunc(g.Parts, func(part string) bool { return shares(text, part) }) {
			t.Errorf("%q: what was handed in", text)
		}
	}
	sent := fresh(encoded(plain()) + "what stands behind")
	p, rest, _ := frag.Decode(sent)
	if p != plain() || rest != "what stands behind" || shares(p.Bytes, sent) || shares(rest, sent) || shares(p.Bytes, rest) {
		t.Errorf("%v, %q: a piece of what was handed in", p, rest)
	}
	if text, _ := frag.Encode(p); shares(text, p.Bytes) {
		t.Errorf("%q: what was handed in", text)
	}
}

// R1, R4: at all arguments calls end, and answer the same again.
func TestRulesHoldAtAllArguments(t *testing.T) {
	for _, p := range pieces() {
		s, e := frag.Encode(p)
		again, f := frag.Encode(p)
		if s != again || e != f || frag.Right(p) != (e == api.OK) {
			t.Errorf("%v: %x, %d, and then %x, %d", p, s, e, again, f)
		}
		for _, size := range numbers() {
			l, e := frag.Split(p.Seq, p.Bytes, size)
			more, f := frag.Split(p.Seq, p.Bytes, size)
			if !reflect.DeepEqual(l, more) || e != f {
				t.Errorf("%d, %q, %d: %v, and then %v", p.Seq, p.Bytes, size, l, more)
			}
		}
	}
	for _, g := range gathers() {
		s, is := frag.Whole(g)
		again, still := frag.Whole(g)
		if s != again || is != still || frag.May(g) != frag.May(g) {
			t.Errorf("%v: %q, and then %q", g, s, again)
		}
		for _, inc := range numbers() {
			one, e := frag.Put(g, inc, plain())
			other, f := frag.Put(g, inc, plain())
			if !same(one, other) || e != f {
				t.Errorf("%v, %d: %v, and then %v", g, inc, one, other)
			}
		}
	}
	for _, s := range append(texts(), strings.Repeat("\x00", 1000), strings.Repeat("\xff", 1000)) {
		p, rest, e := frag.Decode(s)
		back, left, f := frag.Decode(s)
		if p != back || rest != left || e != f {
			t.Errorf("%q: %v, %q, %d, and then %v, %q, %d", s, p, rest, e, back, left, f)
		}
	}
}
