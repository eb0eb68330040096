package entry_test

import (
	"math"
	"math/bits"
	"math/rand"
	"reflect"
	"slices"
	"strings"
	"testing"
	"unsafe"

	"omnibus/api"
	"omnibus/entry"
	"omnibus/msg"
)

// of is a message of a node, whose identifier is n.
func of(sender, inc, n int) api.Message {
	return api.Message{Id: api.Ident{N: n}, Sender: sender, Inc: inc, Seq: 3, Number: 4, Data: "ab"}
}

// plain is an ordinary entry, from which others part in one field: its members are 1, 4 and 15.
func plain() api.Entry {
	return api.Entry{
		Term: 258, Epoch: 772, Members: 1<<1 | 1<<4 | 1<<15, Incs: []int{7, 300, 65535},
		Msgs: []api.Message{of(15, 65535, 3), of(1, 7, 5)},
	}
}

// with is the ordinary entry, changed.
func with(change func(e *api.Entry)) api.Entry {
	e := plain()
	change(&e)
	return e
}

// alone is an entry without members, and without messages.
func alone() api.Entry { return api.Entry{Term: 1, Epoch: 1} }

// crowd is an entry of all nodes and of so many messages, the last node's ahead.
func crowd(many int) api.Entry {
	e := api.Entry{Term: 65535, Epoch: 1, Members: 65535}
	for n := range 16 {
		e.Incs = append(e.Incs, 4096*n+1)
	}
	for k := range many {
		n := 15 - k%16
		e.Msgs = append(e.Msgs, api.Message{
			Id: api.Ident{Ext: k%2 == 1, N: []int{k, k << 18}[k%2]}, Sender: n, Inc: 4096*n + 1, Seq: 1 + k, Number: 65535 - k, Data: "12345678"[:k%9],
		})
	}
	return e
}

// numbers are ordinary ones, the edges of all fields, and what goes far beyond.
func numbers() []int {
	return []int{
		-1, 0, 1, 2, 15, 16, 255, 256, 257, 300, 4660, 32768, 32786, 65534, 65535, 65536, 65537, 65536 + 32786,
		-2, -16, -32750, -65535, -65536, 1 << 31, 1 << 32, 1<<32 + 32786, math.MaxInt, math.MinInt, math.MinInt + 1,
	}
}

// messages are the ordinary entry's first one, changed in one field, right ones and others.
func messages() []api.Message {
	l := []api.Message{{}, of(1, 7, 3), of(1, 7, 5), of(4, 300, 3), of(4, 7, 3), of(0, 7, 3), of(15, 65535, 4)}
	for _, n := range numbers() {
		for _, change := range []func(m *api.Message){
			func(m *api.Message) { m.Id.N = n },
			func(m *api.Message) { m.Id = api.Ident{Ext: true, N: n} },
			func(m *api.Message) { m.Sender = n },
			func(m *api.Message) { m.Inc = n },
			func(m *api.Message) { m.Seq = n },
			func(m *api.Message) { m.Number = n },
			func(m *api.Message) { m.Data = strings.Repeat("\xff", min(max(n, 0), 20)) },
		} {
			m := of(15, 65535, 3)
			change(&m)
			l = append(l, m)
		}
	}
	return l
}

// entries are of all kinds: the edges of each field by itself, and what may not be.
func entries() []api.Entry {
	l := []api.Entry{plain(), alone(), {}, crowd(0), crowd(1), crowd(15), crowd(16), crowd(17), crowd(300)}
	for _, n := range numbers() {
		l = append(l,
			with(func(e *api.Entry) { e.Term = n }),
			with(func(e *api.Entry) { e.Epoch = n }),
			with(func(e *api.Entry) { e.Members = n }),
			api.Entry{Term: 1, Epoch: 1, Members: n},
			api.Entry{Term: 1, Epoch: 1, Members: n, Incs: slices.Repeat([]int{1}, 16)},
			api.Entry{Term: n, Epoch: n, Members: 1, Incs: []int{1}})
		for k := range 3 {
			l = append(l, with(func(e *api.Entry) { e.Incs[k] = n }))
		}
		for k := range 2 {
			l = append(l, with(func(e *api.Entry) { e.Msgs[k].Inc = n }), with(func(e *api.Entry) { e.Msgs[k].Sender = n }))
		}
	}
	for many := range 19 {
		l = append(l, with(func(e *api.Entry) { e.Incs = slices.Repeat([]int{7}, many) }))
	}
	for _, m := range messages() {
		l = append(l,
			with(func(e *api.Entry) { e.Msgs[0] = m }),
			with(func(e *api.Entry) { e.Msgs[1] = m }),
			with(func(e *api.Entry) { e.Msgs = []api.Message{m} }),
			with(func(e *api.Entry) { e.Msgs = append(e.Msgs, m) }))
	}
	return l
}

func rightEntries() []api.Entry {
	return slices.DeleteFunc(entries(), func(e api.Entry) bool { return !right(e) })
}

func counted(n int) bool { return n >= 1 && n <= 65535 }

// right is F1's, by its words.
func right(e api.Entry) bool {
	if !counted(e.Term) || !counted(e.Epoch) || e.Members < 0 || e.Members > 65535 {
		return false
	}
	if len(e.Incs) != bits.OnesCount(uint(e.Members)) {
		return false
	}
	incs, senders := map[int]int{}, map[int]int{}
	at := 0
	for n := range 16 {
		if e.Members>>n&1 == 1 {
			incs[n] = e.Incs[at]
			at++
		}
	}
	for _, inc := range incs {
		if !counted(inc) {
			return false
		}
	}
	for k, m := range e.Msgs {
		senders[m.Sender]++
		if !msg.Right(m) || k > 0 && !msg.Less(e.Msgs[k-1], m) || senders[m.Sender] > 1 || incs[m.Sender] != m.Inc {
			return false
		}
	}
	return true
}

// incOf is F2's, by its words; a number that is no vector counts as what it leaves, divided by 65536.
func incOf(e api.Entry, node int) (int, bool) {
	at, is, many := 0, false, 0
	for n := range 16 {
		if uint16(e.Members)>>n&1 == 1 {
			if n == node {
				at, is = many, true
			}
			many++
		}
	}
	if !is || len(e.Incs) != many {
		return 0, false
	}
	return e.Incs[at], true
}

// encoded is F3's, by its words, of a right entry.
func encoded(e api.Entry) string {
	var b []byte
	for _, n := range append([]int{e.Term, e.Epoch, e.Members}, e.Incs...) {
		b = append(b, byte(n/256), byte(n%256))
	}
	b = append(b, byte(len(e.Msgs)))
	for _, m := range e.Msgs {
		s, _ := msg.Encode(m)
		b = append(b, s...)
	}
	return string(b)
}

// decoded is F3's, by its words.
func decoded(s string) (api.Entry, string, api.Errno) {
	if len(s) < 6 {
		return api.Entry{}, "", api.ErrShort
	}
	two := func(at int) int { return int(s[at])*256 + int(s[at+1]) }
	e := api.Entry{Term: two(0), Epoch: two(2), Members: two(4)}
	end := 6 + 2*bits.OnesCount(uint(e.Members))
	if len(s) < end+1 {
		return api.Entry{}, "", api.ErrShort
	}
	for at := 6; at < end; at += 2 {
		e.Incs = append(e.Incs, two(at))
	}
	many := s[end]
	if many > 16 {
		return api.Entry{}, "", api.ErrForm
	}
	left := s[end+1:]
	for range many {
		m, rest, fault := msg.Decode(left)
		if fault != api.OK {
			return api.Entry{}, "", fault
		}
		e.Msgs, left = append(e.Msgs, m), rest
	}
	if !right(e) {
		return api.Entry{}, "", api.ErrForm
	}
	return e, left, api.OK
}

func same(a, b api.Entry) bool {
	return a.Term == b.Term && a.Epoch == b.Epoch && a.Members == b.Members && slices.Equal(a.Incs, b.Incs) && slices.Equal(a.Msgs, b.Msgs)
}

// shares tells whether bytes of a stand in b's memory.
func shares(a, b string) bool {
	if a == "" || b == "" {
		return false
	}
	first, second := uintptr(unsafe.Pointer(unsafe.StringData(a))), uintptr(unsafe.Pointer(unsafe.StringData(b)))
	return first < second+uintptr(len(b)) && second < first+uintptr(len(a))
}

// fresh is the same text in memory of its own.
func fresh(s string) string { return string([]byte(s)) }

func rights(t *testing.T, name string, e api.Entry, want bool) {
	t.Helper()
	if got := entry.Right(e); got != want {
		t.Errorf("%s: %v: %t", name, e, got)
	}
}

func TestF1RightByNumbers(t *testing.T) {
	for _, x := range []struct {
		n    int
		want bool
	}{
		{math.MinInt, false}, {-1, false}, {0, false}, {1, true}, {2, true}, {255, true}, {256, true}, {65534, true}, {65535, true},
		{65536, false}, {65537, false}, {65536 + 258, false}, {1 << 32, false}, {1<<32 + 1, false}, {math.MaxInt, false},
	} {
		rights(t, "Term", with(func(e *api.Entry) { e.Term = x.n }), x.want)
		rights(t, "Epoch", with(func(e *api.Entry) { e.Epoch = x.n }), x.want)
		rights(t, "first of Incs", with(func(e *api.Entry) { e.Incs[0], e.Msgs[1].Inc = x.n, x.n }), x.want)
		rights(t, "second of Incs", with(func(e *api.Entry) { e.Incs[1] = x.n }), x.want)
		rights(t, "last of Incs", with(func(e *api.Entry) { e.Incs[2], e.Msgs[0].Inc = x.n, x.n }), x.want)
	}
	rights(t, "ordinary", plain(), true)
	rights(t, "nothing", api.Entry{}, false)
	rights(t, "no members", alone(), true)
}

func TestF1RightByMembers(t *testing.T) {
	ones := slices.Repeat([]int{1}, 16)
	for _, x := range []struct {
		members, incs int
		want          bool
	}{
		{0, 0, true}, {0, 1, false}, {1, 1, true}, {1, 0, false}, {1, 2, false}, {2, 1, true}, {32768, 1, true}, {3, 2, true}, {3, 1, false},
		{65535, 16, true}, {65535, 15, false}, {65534, 15, true}, {32767, 15, true},
		// As sets of nodes these have as many, and yet they are no vectors.
		{-1, 16, false}, {-65536, 0, false}, {-65535, 1, false}, {65536, 0, false}, {65537, 1, false}, {131071, 16, false},
		{65536, 1, false}, {65537, 2, false}, {1 << 32, 0, false}, {1<<32 + 1, 1, false}, {math.MaxInt, 16, false}, {math.MinInt, 0, false},
	} {
		e := alone()
		e.Members, e.Incs = x.members, ones[:x.incs]
		rights(t, "Members", e, x.want)
	}
	for members := range 65536 {
		many := bits.OnesCount(uint(members))
		for incs := max(many-1, 0); incs <= min(many+1, 16); incs++ {
			e := alone()
			e.Members, e.Incs = members, ones[:incs]
			rights(t, "Members", e, incs == many)
		}
	}
	rights(t, "one too many", with(func(e *api.Entry) { e.Incs = append(e.Incs, 1) }), false)
	rights(t, "one too few", with(func(e *api.Entry) { e.Incs = e.Incs[:2] }), false)
	rights(t, "none", with(func(e *api.Entry) { e.Incs = nil }), false)
	rights(t, "none, and no messages", with(func(e *api.Entry) { e.Incs, e.Msgs = nil, nil }), false)
	rights(t, "17 of all nodes", with(func(e *api.Entry) { e.Members, e.Incs, e.Msgs = 65535, slices.Repeat([]int{1}, 17), nil }), false)
}

// Incs stand in the order of the members, and so a message is held against the one of its sender's place.
func TestF1RightByOrderOfIncs(t *testing.T) {
	rights(t, "other order", with(func(e *api.Entry) { slices.Reverse(e.Incs) }), false)
	rights(t, "other order, no messages", with(func(e *api.Entry) { slices.Reverse(e.Incs); e.Msgs = nil }), true)
	rights(t, "all the same", with(func(e *api.Entry) { e.Incs, e.Msgs[0].Inc = []int{7, 7, 7}, 7 }), true)
	for n := range 16 {
		e := crowd(0)
		for other, inc := range e.Incs {
			e.Msgs = []api.Message{of(n, inc, 5)}
			rights(t, "one message", e, n == other)
		}
	}
}

func TestF1RightByMsgs(t *testing.T) {
	for many, want := range map[int]bool{0: true, 1: true, 2: true, 15: true, 16: true, 17: false, 18: false, 32: false, 300: false} {
		rights(t, "many", crowd(many), want)
	}
	high := func(n int) api.Ident { return api.Ident{Ext: true, N: n} }
	for name, x := range map[string]struct {
		change func(e *api.Entry)
		want   bool
	}{
		"none":                         {func(e *api.Entry) { e.Msgs = nil }, true},
		"one":                          {func(e *api.Entry) { e.Msgs = e.Msgs[1:] }, true},
		"three":                        {func(e *api.Entry) { e.Msgs = append(e.Msgs, of(4, 300, 6)) }, true},
		"three, the last one is less":  {func(e *api.Entry) { e.Msgs = append(e.Msgs, of(4, 300, 4)) }, false},
		"wrong order":                  {func(e *api.Entry) { slices.Reverse(e.Msgs) }, false},
		"twice the same":               {func(e *api.Entry) { e.Msgs[1] = e.Msgs[0] }, false},
		"one key":                      {func(e *api.Entry) { e.Msgs[1] = e.Msgs[0]; e.Msgs[1].Seq, e.Msgs[1].Data = 9, "x" }, false},
		"one Sender":                   {func(e *api.Entry) { e.Msgs[0].Sender, e.Msgs[0].Inc = 1, 7 }, false},
		"one Sender, one Id":           {func(e *api.Entry) { e.Msgs[1] = e.Msgs[0]; e.Msgs[1].Number = 5 }, false},
		"one Sender, apart":            {func(e *api.Entry) { e.Msgs = append(e.Msgs, of(15, 65535, 9)) }, false},
		"one Id, Senders rise":         {func(e *api.Entry) { e.Msgs = []api.Message{of(1, 7, 5), of(15, 65535, 5)} }, true},
		"one Id, Senders fall":         {func(e *api.Entry) { e.Msgs = []api.Message{of(15, 65535, 5), of(1, 7, 5)} }, false},
		"of no member":                 {func(e *api.Entry) { e.Msgs[0].Sender = 2 }, false},
		"of no member, Inc 0":          {func(e *api.Entry) { e.Msgs[0].Sender, e.Msgs[0].Inc = 2, 0 }, false},
		"of no node":                   {func(e *api.Entry) { e.Msgs[0].Sender = 16 }, false},
		"of another start":             {func(e *api.Entry) { e.Msgs[0].Inc = 65534 }, false},
		"of another member's start":    {func(e *api.Entry) { e.Msgs[0].Inc = 300 }, false},
		"the last of another start":    {func(e *api.Entry) { e.Msgs[1].Inc = 8 }, false},
		"the last of no member":        {func(e *api.Entry) { e.Msgs[1].Sender = 0 }, false},
		"the first is not right":       {func(e *api.Entry) { e.Msgs[0].Seq = 0 }, false},
		"the last is not right":        {func(e *api.Entry) { e.Msgs[1].Number = 65536 }, false},
		"too much Data":                {func(e *api.Entry) { e.Msgs[1].Data = "123456789" }, false},
		"most Data":                    {func(e *api.Entry) { e.Msgs[1].Data = "12345678" }, true},
		"no Data":                      {func(e *api.Entry) { e.Msgs[1].Data = "" }, true},
		"Id is not right":              {func(e *api.Entry) { e.Msgs[1].Id.N = 2048 }, false},
		"Id of 29 bits goes behind":    {func(e *api.Entry) { e.Msgs[1].Id = high(3 << 18) }, true},
		"Id of 29 bits goes ahead":     {func(e *api.Entry) { e.Msgs[1].Id = high(5) }, false},
		"Id of 29 bits, of lower base": {func(e *api.Entry) { e.Msgs[0].Id = high(5<<18 - 1) }, true},
	} {
		rights(t, name, with(x.change), x.want)
	}
}

func TestF1RightOfAllEntries(t *testing.T) {
	is := 0
	for _, e := range entries() {
		rights(t, "by its words", e, right(e))
		if right(e) {
			is++
		}
	}
	if is < 100 {
		t.Errorf("%d are right", is)
	}
}

func TestF2Inc(t *testing.T) {
	three := []int{7, 300, 65535}
	for _, x := range []struct {
		members int
		incs    []int
		node    int
		inc     int
		is      bool
	}{
		{32786, three, 1, 7, true}, {32786, three, 4, 300, true}, {32786, three, 15, 65535, true},
		{32786, three, 0, 0, false}, {32786, three, 2, 0, false}, {32786, three, 14, 0, false},
		{32786, three, -1, 0, false}, {32786, three, 16, 0, false}, {32786, three, 17, 0, false}, {32786, three, 65, 0, false},
		{32786, three, math.MinInt, 0, false}, {32786, three, math.MaxInt, 0, false},
		{1, []int{9}, 0, 9, true}, {32768, []int{9}, 15, 9, true}, {32768, []int{9}, 0, 0, false},
		{0, nil, 0, 0, false}, {0, []int{9}, 0, 0, false},
		{1, nil, 0, 0, false}, {1, []int{9, 8}, 0, 0, false}, {32786, three[:2], 1, 0, false}, {32786, three[:2], 15, 0, false},
		{32786, append([]int{1}, three...), 1, 0, false},
		// What it is of a member need not be one that may be.
		{32786, []int{0, -5, 65536}, 1, 0, true}, {32786, []int{0, -5, 65536}, 4, -5, true}, {32786, []int{0, -5, 65536}, 15, 65536, true},
		// Chapter 3 takes each number for a vector.
		{65536 + 32786, three, 4, 300, true}, {-65536 + 1, []int{9}, 0, 9, true}, {-65536 + 1, []int{9}, 16, 0, false}, {65536, nil, 16, 0, false},
		{1<<40 + 3, []int{9, 8}, 1, 8, true}, {math.MinInt, nil, 0, 0, false},
	} {
		e := api.Entry{Members: x.members, Incs: x.incs}
		if inc, is := entry.Inc(e, x.node); inc != x.inc || is != x.is {
			t.Errorf("%v, %d: %d, %t", e, x.node, inc, is)
		}
	}
	for n := range 16 {
		if inc, is := entry.Inc(crowd(0), n); inc != 4096*n+1 || !is {
			t.Errorf("%d: %d, %t", n, inc, is)
		}
		if inc, is := entry.Inc(api.Entry{Members: -1, Incs: crowd(0).Incs}, n); inc != 4096*n+1 || !is {
			t.Errorf("of -1, %d: %d, %t", n, inc, is)
		}
	}
}

func TestF2IncOfAllEntries(t *testing.T) {
	for _, e := range entries() {
		for _, node := range append(numbers(), 3, 4, 5, 14, 17) {
			inc, is := entry.Inc(e, node)
			if wantInc, want := incOf(e, node); inc != wantInc || is != want {
				t.Fatalf("%v, %d: %d, %t", e, node, inc, is)
			}
		}
	}
	incs := []int{10, 11, 12, 13, 14, 15, 16, 17, 18, 19, 20, 21, 22, 23, 24, 25}
	for members := range 65536 {
		many := bits.OnesCount(uint(members))
		for node := -1; node <= 16; node++ {
			e := api.Entry{Members: members, Incs: incs[:many]}
			inc, is := entry.Inc(e, node)
			if wantInc, want := incOf(e, node); inc != wantInc || is != want {
				t.Fatalf("%v, %d: %d, %t", e, node, inc, is)
			}
		}
	}
}

func encodes(t *testing.T, e api.Entry, want string, fault api.Errno) {
	t.Helper()
	if s, f := entry.Encode(e); s != want || f != fault {
		t.Errorf("%v: %x, %d, not %x, %d", e, s, f, want, fault)
	}
}

func TestF3Encode(t *testing.T) {
	encodes(t, api.Entry{Term: 1, Epoch: 2, Members: 5, Incs: []int{1, 3}}, "\x00\x01\x00\x02\x00\x05\x00\x01\x00\x03\x00", api.OK)
	encodes(t, alone(), "\x00\x01\x00\x01\x00\x00\x00", api.OK)
	encodes(t, plain(), "\x01\x02\x03\x04\x80\x12\x00\x07\x01\x2c\xff\xff\x02"+
		"\x00\x00\x00\x03\x0f\xff\xff\x00\x03\x00\x04\x02ab"+
		"\x00\x00\x00\x05\x01\x00\x07\x00\x03\x00\x04\x02ab", api.OK)
	encodes(t, api.Entry{Term: 65535, Epoch: 256, Members: 32768, Incs: []int{255}}, "\xff\xff\x01\x00\x80\x00\x00\xff\x00", api.OK)
	for many := range 17 {
		s, f := entry.Encode(crowd(many))
		if f != api.OK || len(s) < 39 || int(s[38]) != many || s != encoded(crowd(many)) {
			t.Errorf("%d: %x, %d", many, s, f)
		}
	}
}

func TestF3EncodeOfAllEntries(t *testing.T) {
	encodes(t, api.Entry{}, "", api.ErrArg)
	encodes(t, crowd(17), "", api.ErrArg)
	encodes(t, with(func(e *api.Entry) { slices.Reverse(e.Msgs) }), "", api.ErrArg)
	encodes(t, with(func(e *api.Entry) { e.Incs = e.Incs[:2] }), "", api.ErrArg)
	for _, e := range entries() {
		if right(e) {
			encodes(t, e, encoded(e), api.OK)
		} else {
			encodes(t, e, "", api.ErrArg)
		}
	}
}

func decodes(t *testing.T, s string, want api.Entry, behind string, fault api.Errno) {
	t.Helper()
	e, rest, f := entry.Decode(s)
	if !same(e, want) || rest != behind || f != fault {
		t.Errorf("%x: %v, %q, %d, not %v, %q, %d", s, e, rest, f, want, behind, fault)
	}
}

func refused(t *testing.T, s string, fault api.Errno) {
	t.Helper()
	decodes(t, s, api.Entry{}, "", fault)
}

func TestF3DecodeOfFewBytes(t *testing.T) {
	refused(t, "", api.ErrShort)
	for many := range 6 {
		for _, b := range []string{"\x00", "\x01", "\xff"} {
			refused(t, strings.Repeat(b, many), api.ErrShort)
		}
	}
	// Six bytes, and none for how many messages there are.
	refused(t, "\x00\x01\x00\x01\x00\x00", api.ErrShort)
	refused(t, "\x00\x00\x00\x00\x00\x00", api.ErrShort)
	// As many Incs as there are members, whichever these are.
	for members := range 65536 {
		head := "\x00\x01\x00\x01" + string([]byte{byte(members / 256), byte(members % 256)})
		many := bits.OnesCount(uint(members))
		incs := slices.Repeat([]int{258}, many)
		text := strings.Repeat("\x01\x02", many)
		decodes(t, head+text+"\x00x", api.Entry{Term: 1, Epoch: 1, Members: members, Incs: incs}, "x", api.OK)
		refused(t, head+text, api.ErrShort)
		if many > 0 {
			refused(t, head+text[1:], api.ErrShort)
			refused(t, head+text[2:], api.ErrShort)
		}
	}
}

func TestF3DecodeCutAnywhere(t *testing.T) {
	for _, e := range rightEntries() {
		s := encoded(e)
		for cut := range len(s) {
			refused(t, s[:cut], api.ErrShort)
		}
		decodes(t, s, e, "", api.OK)
	}
}

// How many messages there are: up to 16 are read; of more it is told ahead of what is cut.
func TestF3DecodeOfHowManyMessages(t *testing.T) {
	for many := range 256 {
		told := string([]byte{byte(many)})
		none := "\x00\x01\x00\x01\x00\x00" + told
		switch {
		case many == 0:
			decodes(t, none, alone(), "", api.OK)
		case many <= 16:
			refused(t, none, api.ErrShort)
		default:
			refused(t, none, api.ErrForm)
			refused(t, none+strings.Repeat(encoded(alone()), 999), api.ErrForm)
		}
	}
	for many := range 18 {
		e := crowd(many)
		if many <= 16 {
			decodes(t, encoded(e)+"more", e, "more", api.OK)
		} else {
			refused(t, encoded(e)+"more", api.ErrForm)
		}
	}
	// One too few is told, and one too many.
	s := encoded(plain())
	first, _ := msg.Encode(plain().Msgs[1])
	decodes(t, s[:12]+"\x01"+s[13:], with(func(e *api.Entry) { e.Msgs = e.Msgs[:1] }), first, api.OK)
	refused(t, s[:12]+"\x03"+s[13:], api.ErrShort)
	refused(t, s[:12]+"\x10"+s[13:], api.ErrShort)
	refused(t, s[:12]+"\x11"+s[13:], api.ErrForm)
}

// Each error of chapter 4's Decode, of the first message and of one behind it.
func TestF3DecodeOfMessagesThatAreNone(t *testing.T) {
	head := encoded(with(func(e *api.Entry) { e.Msgs = nil }))
	head = head[:len(head)-1]
	one, _ := msg.Encode(plain().Msgs[0])
	for name, x := range map[string]struct {
		bytes string
		fault api.Errno
	}{
		"nothing":         {"", api.ErrShort},
		"cut head":        {one[:11], api.ErrShort},
		"cut Data":        {one[:13], api.ErrShort},
		"too much Data":   {one[:11] + "\x09123456789", api.ErrForm},
		"of that, no one": {one[:11] + "\x09", api.ErrForm},
		"no Id":           {"\x00\x00\x08\x00" + one[4:], api.ErrForm},
		"no Id, and cut":  {"\x00\x00\x08\x00" + one[4:13], api.ErrShort},
		"no Sender":       {one[:4] + "\x10" + one[5:], api.ErrForm},
		"no Inc":          {one[:5] + "\x00\x00" + one[7:], api.ErrForm},
		"no Seq":          {one[:7] + "\x00\x00" + one[9:], api.ErrForm},
		"no Number":       {one[:9] + "\x00\x00" + one[11:], api.ErrForm},
	} {
		if _, _, f := msg.Decode(x.bytes); f != x.fault {
			t.Fatalf("%s: %d is chapter 4's", name, f)
		}
		refused(t, head+"\x01"+x.bytes, x.fault)
		refused(t, head+"\x02"+one+x.bytes, x.fault)
		refused(t, head+"\x10"+one+x.bytes, x.fault)
	}
}

// The errors' order: s is gone over from the left, and whether all that is right is asked in the end.
func TestF3DecodeNamesTheFirstError(t *testing.T) {
	one, _ := msg.Encode(plain().Msgs[0])
	two, _ := msg.Encode(plain().Msgs[1])
	wrong := "\x00\x00\x00\x00\x00\x03"
	refused(t, wrong, api.ErrShort)
	refused(t, wrong+"\x00\x00", api.ErrShort)
	refused(t, wrong+"\x00\x00\x00\x00", api.ErrShort)
	refused(t, wrong+"\x00\x00\x00\x00\x11", api.ErrForm)
	refused(t, wrong+"\x00\x00\x00\x00\x10", api.ErrShort)
	refused(t, wrong+"\x00\x00\x00\x00\x01"+one[:13], api.ErrShort)
	refused(t, wrong+"\x00\x00\x00\x00\x01"+one, api.ErrForm)
	refused(t, wrong+"\x00\x00\x00\x00\x02"+two+one[:13], api.ErrShort)
	refused(t, wrong+"\x00\x00\x00\x00\x02"+two+one[:11]+"\x09", api.ErrForm)
	refused(t, wrong+"\x00\x00\x00\x00\x03"+two+one[:11]+"\x09", api.ErrForm)
	refused(t, wrong+"\x00\x00\x00\x00\x03"+two+one, api.ErrShort)
}

// Each field by itself.
func TestF3DecodeOfWhatIsNotRight(t *testing.T) {
	one, _ := msg.Encode(plain().Msgs[0])
	two, _ := msg.Encode(plain().Msgs[1])
	s := encoded(plain())
	for name, x := range map[string]string{
		"Term 0":                 "\x00\x00" + s[2:],
		"Epoch 0":                s[:2] + "\x00\x00" + s[4:],
		"other members":          s[:4] + "\x80\x14" + s[6:],
		"first of Incs 0":        s[:6] + "\x00\x00" + s[8:],
		"second of Incs 0":       s[:8] + "\x00\x00" + s[10:],
		"last of Incs 0":         s[:10] + "\x00\x00" + s[12:],
		"first of Incs another":  s[:6] + "\x00\x08" + s[8:],
		"last of Incs another":   s[:10] + "\xff\xfe" + s[12:],
		"wrong order":            s[:13] + two + one,
		"twice the same":         s[:13] + one + one,
		"one Sender":             s[:13] + one + "\x00\x00\x00\x05" + one[4:],
		"of no member":           s[:13] + one + two[:4] + "\x02" + two[5:],
		"of another start":       s[:13] + one + two[:5] + "\x00\x08" + two[7:],
		"no members":             "\x00\x01\x00\x01\x00\x00\x01" + one,
		"no members, and Term 0": "\x00\x00\x00\x01\x00\x00\x00",
		"all noughts":            strings.Repeat("\x00", 7),
	} {
		if x == s {
			t.Fatalf("%s: nothing is changed", name)
		}
		refused(t, x, api.ErrForm)
		refused(t, x+"more", api.ErrForm)
	}
	for name, x := range map[string]struct {
		bytes  string
		change func(e *api.Entry)
	}{
		"Term 1":           {"\x00\x01" + s[2:], func(e *api.Entry) { e.Term = 1 }},
		"Term 65535":       {"\xff\xff" + s[2:], func(e *api.Entry) { e.Term = 65535 }},
		"Epoch 1":          {s[:2] + "\x00\x01" + s[4:], func(e *api.Entry) { e.Epoch = 1 }},
		"Epoch 65535":      {s[:2] + "\xff\xff" + s[4:], func(e *api.Entry) { e.Epoch = 65535 }},
		"second of Incs 1": {s[:8] + "\x00\x01" + s[10:], func(e *api.Entry) { e.Incs[1] = 1 }},
		"other members":    {s[:4] + "\x80\x06" + s[6:], func(e *api.Entry) { e.Members = 32768 + 6 }},
	} {
		e := with(x.change)
		if !right(e) {
			t.Fatalf("%s: %v", name, e)
		}
		decodes(t, x.bytes+"more", e, "more", api.OK)
	}
}

// decodesBack tells what is asked for by F3's words.
func decodesBack(t *testing.T, s string) bool {
	t.Helper()
	e, rest, f := decoded(s)
	decodes(t, s, e, rest, f)
	return f == api.OK
}

// Any byte of an entry's is set to any other one: just what is right comes out.
func TestF3DecodeOfManyTexts(t *testing.T) {
	for _, first := range []api.Entry{plain(), alone(), crowd(2), {Term: 65535, Epoch: 256, Members: 5, Incs: []int{1, 2}}} {
		s := encoded(first)
		for at := range s {
			for b := range 256 {
				decodesBack(t, s[:at]+string([]byte{byte(b)})+s[at+1:]+"behind")
			}
		}
	}
	chance := rand.New(rand.NewSource(11))
	for range 20000 {
		b := make([]byte, chance.Intn(60))
		for k := range b {
			b[k] = byte(chance.Intn(256)) & byte(chance.Intn(256)) & byte(chance.Intn(256))
		}
		decodesBack(t, string(b))
	}
}

// drawn is an entry that is right, by chance.
func drawn(chance *rand.Rand) api.Entry {
	e := api.Entry{Term: 1 + chance.Intn(65535), Epoch: 1 + chance.Intn(65535), Members: chance.Intn(65536) & chance.Intn(65536)}
	var l []api.Message
	for n := range 16 {
		if e.Members>>n&1 == 0 {
			continue
		}
		inc := 1 + chance.Intn(65535)
		e.Incs = append(e.Incs, inc)
		if chance.Intn(3) > 0 {
			data := make([]byte, chance.Intn(9))
			chance.Read(data)
			l = append(l, api.Message{
				Id: api.Ident{N: chance.Intn(4)}, Sender: n, Inc: inc, Seq: 1 + chance.Intn(65535), Number: 1 + chance.Intn(65535), Data: string(data),
			})
		}
	}
	e.Msgs = msg.Sort(l...)
	return e
}

func TestF4DecodeUndoesEncode(t *testing.T) {
	behind := []string{"", "\x00", "more", "\xff\xff", strings.Repeat("\x09", 40), encoded(plain())}
	undone := func(e api.Entry) {
		s, f := entry.Encode(e)
		if f != api.OK {
			t.Errorf("%v: %d", e, f)
		}
		for _, more := range behind {
			decodes(t, s+more, e, more, api.OK)
		}
	}
	for _, e := range rightEntries() {
		undone(e)
	}
	chance := rand.New(rand.NewSource(12))
	for range 2000 {
		undone(drawn(chance))
	}
}

func TestF4EncodeOfWhatWasDecodedIsWhatWasTaken(t *testing.T) {
	chance := rand.New(rand.NewSource(13))
	taken := 0
	for range 30000 {
		b := []byte(encoded(drawn(chance)) + "behind")
		if len(b) > 120 {
			continue
		}
		at := chance.Intn(len(b))
		b[at] = byte(chance.Intn(256))
		s := string(b)
		e, rest, f := entry.Decode(s)
		if f != api.OK {
			continue
		}
		taken++
		if back, f := entry.Encode(e); back+rest != s || f != api.OK {
			t.Errorf("%x: %x, %x, %d", s, back, rest, f)
		}
	}
	if taken < 1000 {
		t.Errorf("%d were taken", taken)
	}
}

// Several entries, one behind the other, are told one by one.
func TestF4DecodeOfManyEntries(t *testing.T) {
	l := rightEntries()
	var all strings.Builder
	for _, e := range l {
		all.WriteString(encoded(e))
	}
	s := all.String()
	for n, want := range l {
		e, rest, f := entry.Decode(s)
		if !same(e, want) || f != api.OK {
			t.Fatalf("%d: %v, %d, not %v", n, e, f, want)
		}
		s = rest
	}
	if s != "" {
		t.Errorf("%x is left", s)
	}
}

// R3: what is handed in stays as it was, what stands behind it too.
func TestWhatIsHandedInStays(t *testing.T) {
	for _, e := range entries() {
		incs, msgs := append(slices.Clone(e.Incs), 11, 12), append(slices.Clone(e.Msgs), of(1, 7, 9), of(4, 300, 1))
		wereIncs, wereMsgs := slices.Clone(incs), slices.Clone(msgs)
		e.Incs, e.Msgs = incs[:len(e.Incs)], msgs[:len(e.Msgs)]
		entry.Right(e)
		entry.Encode(e)
		for n := -1; n <= 16; n++ {
			entry.Inc(e, n)
		}
		if !slices.Equal(incs, wereIncs) || !slices.Equal(msgs, wereMsgs) {
			t.Fatalf("%v: %v, %v", e, incs, msgs)
		}
	}
	for _, e := range rightEntries() {
		s := fresh(encoded(e) + "more")
		kept := strings.Clone(s)
		entry.Decode(s)
		if s != kept {
			t.Errorf("%v: %x", e, s)
		}
	}
}

// R3: what comes out is its owner's, spare room too.
func TestWhatComesOutIsNewMemory(t *testing.T) {
	for _, want := range []api.Entry{plain(), alone(), crowd(16)} {
		s := fresh(encoded(want) + "what stands behind")
		first, rest, _ := entry.Decode(s)
		second, left, _ := entry.Decode(s)
		if !same(first, want) || rest != "what stands behind" || shares(rest, s) || shares(rest, left) {
			t.Errorf("%v, %q: a piece of what was handed in", first, rest)
		}
		for k, m := range first.Msgs {
			if shares(m.Data, s) || shares(m.Data, rest) || shares(m.Data, second.Msgs[k].Data) {
				t.Errorf("%v: a piece of what was handed in", m)
			}
		}
		for k := range first.Incs[:cap(first.Incs)] {
			first.Incs[:cap(first.Incs)][k] = -1
		}
		for k := range first.Msgs[:cap(first.Msgs)] {
			first.Msgs[:cap(first.Msgs)][k] = api.Message{Data: "x"}
		}
		if !same(second, want) {
			t.Errorf("%v is changed", second)
		}
		decodes(t, s, want, "what stands behind", api.OK)
	}
	e := with(func(e *api.Entry) { e.Msgs[0].Data = fresh("abcdefgh") })
	if s, _ := entry.Encode(e); shares(s, e.Msgs[0].Data) {
		t.Errorf("%q: what was handed in", s)
	}
}

// R1, R4: at all arguments calls end, and answer the same again.
func TestRulesHoldAtAllArguments(t *testing.T) {
	for _, e := range entries() {
		s, f := entry.Encode(e)
		again, g := entry.Encode(e)
		if s != again || f != g || entry.Right(e) != (f == api.OK) || entry.Right(e) != entry.Right(e) {
			t.Errorf("%v: %x, %d, and then %x, %d", e, s, f, again, g)
		}
	}
	for _, s := range []string{
		"", "\x00", strings.Repeat("\x00", 1000), strings.Repeat("\x01", 1000), strings.Repeat("\xff", 1000), strings.Repeat("größe", 99), encoded(crowd(16)),
	} {
		e, rest, f := entry.Decode(s)
		back, left, g := entry.Decode(s)
		if !reflect.DeepEqual(e, back) || rest != left || f != g {
			t.Errorf("%q: %v, %q, %d, and then %v, %q, %d", s, e, rest, f, back, left, g)
		}
		if decodesBack(t, s) != (f == api.OK) {
			t.Errorf("%q: %d", s, f)
		}
	}
}
