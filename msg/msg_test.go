package msg_test

import (
	"bytes"
	"math"
	"math/rand"
	"slices"
	"strings"
	"testing"
	"unsafe"

	"omnibus/api"
	"omnibus/msg"
)

const (
	two18 = 262144
	two29 = 536870912
	two31 = 2147483648
)

// plain is an ordinary message, from which others part in one field.
func plain() api.Message {
	return api.Message{Id: api.Ident{N: 5}, Sender: 2, Inc: 1, Seq: 3, Number: 4}
}

// with is the ordinary message, changed.
func with(change func(m *api.Message)) api.Message {
	m := plain()
	change(&m)
	return m
}

func rightIds() []api.Ident {
	return []api.Ident{
		{N: 0}, {N: 1}, {N: 5}, {N: 2046}, {N: 2047},
		{Ext: true, N: 0}, {Ext: true, N: 5}, {Ext: true, N: two18 - 1}, {Ext: true, N: two18},
		{Ext: true, N: 5 * two18}, {Ext: true, N: 5*two18 + 77}, {Ext: true, N: two29 - 1},
	}
}

func wrongIds() []api.Ident {
	return []api.Ident{
		{N: -1}, {N: 2048}, {N: 65536 + 5}, {N: two31}, {N: two31 + 5}, {N: 1<<32 + 5}, {N: math.MaxInt}, {N: math.MinInt},
		{Ext: true, N: -1}, {Ext: true, N: two29}, {Ext: true, N: two29 + 5}, {Ext: true, N: two31}, {Ext: true, N: 1 << 32},
		{Ext: true, N: math.MaxInt}, {Ext: true, N: math.MinInt},
	}
}

// numbers are ordinary ones, the edges of Sender and of what is counted, and what goes far beyond.
func numbers() []int {
	return []int{
		-1, 0, 1, 2, 14, 15, 16, 17, 255, 256, 257, 258, 4660, 32768, 65534, 65535, 65536, 65537, 65536 + 5,
		-2, -16, -65535, -65536, 1 << 31, 1 << 32, 1<<32 + 1, math.MaxInt, math.MinInt, math.MinInt + 1,
	}
}

// texts are Data of all kinds: none, the edges of how long it is, and bytes that are no UTF-8.
func texts() []string {
	return []string{
		"", "a", "\x00", "\xff\xfe", "größe", "1234567", "12345678", "\x00\x00\x00\x00\x00\x00\x00\x00",
		"\xff\xff\xff\xff\xff\xff\xff\xff", "123456789", "\x00\x00\x00\x00\x00\x00\x00\x00\x00", strings.Repeat("x", 255), strings.Repeat("x", 256), strings.Repeat("x", 264),
	}
}

// messages part from the ordinary one in each field by itself, right ones and others.
func messages() []api.Message {
	l := []api.Message{plain(), {}}
	for _, i := range append(rightIds(), wrongIds()...) {
		l = append(l, with(func(m *api.Message) { m.Id = i }))
	}
	for _, n := range numbers() {
		l = append(l,
			with(func(m *api.Message) { m.Sender = n }),
			with(func(m *api.Message) { m.Inc = n }),
			with(func(m *api.Message) { m.Seq = n }),
			with(func(m *api.Message) { m.Number = n }))
	}
	for _, s := range texts() {
		l = append(l, with(func(m *api.Message) { m.Data = s }))
	}
	return l
}

func rightMessages() []api.Message {
	return slices.DeleteFunc(messages(), func(m api.Message) bool { return !right(m) })
}

// rightId is chapter 2's, by its words.
func rightId(i api.Ident) bool {
	if i.Ext {
		return i.N >= 0 && i.N <= 536870911
	}
	return i.N >= 0 && i.N <= 2047
}

func counted(n int) bool { return n >= 1 && n <= 65535 }

// right is D1's, by its words.
func right(m api.Message) bool {
	return rightId(m.Id) && m.Sender >= 0 && m.Sender <= 15 && counted(m.Inc) && counted(m.Seq) && counted(m.Number) && len(m.Data) <= 8
}

// key is chapter 2's, by its words, of a right identifier.
func key(i api.Ident) int {
	if i.Ext {
		return i.N/two18*2*two18 + two18 + i.N%two18
	}
	return i.N * 2 * two18
}

// less is D2's, by its words.
func less(a, b api.Message) bool {
	if a.Id == b.Id {
		return a.Sender < b.Sender || a.Sender == b.Sender && a.Number < b.Number
	}
	return rightId(a.Id) && rightId(b.Id) && key(a.Id) < key(b.Id)
}

// sorted is D2's, by its words: each one goes ahead of those that it is less than, from the end on.
func sorted(l []api.Message) []api.Message {
	var out []api.Message
	for _, m := range l {
		if !rightId(m.Id) {
			continue
		}
		at := len(out)
		for at > 0 && less(m, out[at-1]) {
			at--
		}
		out = slices.Insert(out, at, m)
	}
	return out
}

// encoded is D3's, by its words, of a right message.
func encoded(m api.Message) string {
	n := m.Id.N
	if m.Id.Ext {
		n += two31
	}
	b := []byte{byte(n / 16777216), byte(n / 65536 % 256), byte(n / 256 % 256), byte(n % 256), byte(m.Sender)}
	for _, x := range []int{m.Inc, m.Seq, m.Number} {
		b = append(b, byte(x/256), byte(x%256))
	}
	return string(append(b, byte(len(m.Data)))) + m.Data
}

// shares tells whether bytes of a stand in b's memory.
func shares(a, b string) bool {
	if a == "" || b == "" {
		return false
	}
	first, second := uintptr(unsafe.Pointer(unsafe.StringData(a))), uintptr(unsafe.Pointer(unsafe.StringData(b)))
	return first < second+uintptr(len(b)) && second < first+uintptr(len(a))
}

func TestD1Right(t *testing.T) {
	for _, x := range []struct {
		n              int
		sender, counts bool
	}{
		{math.MinInt, false, false}, {-1, false, false}, {0, true, false}, {1, true, true}, {15, true, true}, {16, false, true},
		{65535, false, true}, {65536, false, false}, {65537, false, false}, {1 << 32, false, false}, {math.MaxInt, false, false},
	} {
		for name, c := range map[string]struct {
			m    api.Message
			want bool
		}{
			"Sender": {with(func(m *api.Message) { m.Sender = x.n }), x.sender},
			"Inc":    {with(func(m *api.Message) { m.Inc = x.n }), x.counts},
			"Seq":    {with(func(m *api.Message) { m.Seq = x.n }), x.counts},
			"Number": {with(func(m *api.Message) { m.Number = x.n }), x.counts},
		} {
			if got := msg.Right(c.m); got != c.want {
				t.Errorf("%s %d: %t", name, x.n, got)
			}
		}
	}
	for size, want := range map[int]bool{0: true, 1: true, 7: true, 8: true, 9: false, 10: false, 255: false, 256: false, 264: false} {
		if got := msg.Right(with(func(m *api.Message) { m.Data = strings.Repeat("\x00", size) })); got != want {
			t.Errorf("Data of %d: %t", size, got)
		}
	}
}

func TestD1RightById(t *testing.T) {
	for _, i := range rightIds() {
		if m := with(func(m *api.Message) { m.Id = i }); !msg.Right(m) {
			t.Errorf("%v", m)
		}
	}
	for _, i := range wrongIds() {
		if m := with(func(m *api.Message) { m.Id = i }); msg.Right(m) {
			t.Errorf("%v", m)
		}
	}
	if msg.Right(api.Message{}) {
		t.Error("nothing")
	}
}

func TestD2Less(t *testing.T) {
	five := plain()
	for n, x := range []struct {
		change func(m *api.Message)
		before bool // whether the ordinary one goes ahead of it
		behind bool
	}{
		{func(m *api.Message) {}, false, false},
		{func(m *api.Message) { m.Id.N = 4 }, false, true},
		{func(m *api.Message) { m.Id.N = 6 }, true, false},
		{func(m *api.Message) { m.Id = api.Ident{Ext: true, N: 5 * two18} }, true, false},
		{func(m *api.Message) { m.Id = api.Ident{Ext: true, N: 5*two18 - 1} }, false, true},
		{func(m *api.Message) { m.Id.Ext = true }, false, true}, // of base 0
		{func(m *api.Message) { m.Sender = 1 }, false, true},
		{func(m *api.Message) { m.Sender = 3 }, true, false},
		{func(m *api.Message) { m.Number = 3 }, false, true},
		{func(m *api.Message) { m.Number = 5 }, true, false},
		{func(m *api.Message) { m.Id.N, m.Sender, m.Number = 4, 15, 9 }, false, true},
		{func(m *api.Message) { m.Id.N, m.Sender, m.Number = 6, 0, 1 }, true, false},
		{func(m *api.Message) { m.Sender, m.Number = 1, 9 }, false, true},
		{func(m *api.Message) { m.Sender, m.Number = 3, 1 }, true, false},
		{func(m *api.Message) { m.Inc = 2 }, false, false},
		{func(m *api.Message) { m.Seq = 2 }, false, false},
		{func(m *api.Message) { m.Data = "a" }, false, false},
		{func(m *api.Message) { m.Inc, m.Seq, m.Data = 9, 1, "a" }, false, false},
	} {
		m := with(x.change)
		if before, behind := msg.Less(five, m), msg.Less(m, five); before != x.before || behind != x.behind {
			t.Errorf("%d: %t, %t", n, before, behind)
		}
	}
}

// An Id that is not right is less than none, and none than it; of two that are the same Sender and Number tell.
func TestD2LessOfIdsThatAreNotRight(t *testing.T) {
	for _, i := range wrongIds() {
		m := with(func(m *api.Message) { m.Id, m.Sender = i, 1 })
		for _, k := range append(rightIds(), wrongIds()...) {
			other := with(func(m *api.Message) { m.Id = k })
			if got := msg.Less(m, other); got != (i == k) {
				t.Errorf("%v %v: %t", i, k, got)
			}
			if msg.Less(other, m) {
				t.Errorf("%v %v: behind", i, k)
			}
		}
		later := m
		later.Number++
		if !msg.Less(m, later) || msg.Less(later, m) || msg.Less(m, m) {
			t.Errorf("%v: by Number", i)
		}
	}
}

func TestD2LessOfAllMessages(t *testing.T) {
	for _, a := range messages() {
		for _, b := range messages() {
			if got := msg.Less(a, b); got != less(a, b) {
				t.Errorf("%v %v: %t", a, b, got)
			}
		}
	}
}

func TestD2SortOfFew(t *testing.T) {
	one := plain()
	ahead := with(func(m *api.Message) { m.Id.N = 4 })
	wrong := with(func(m *api.Message) { m.Id.N = 2048 })
	wide := with(func(m *api.Message) { m.Id = api.Ident{Ext: true, N: two29} })
	below := with(func(m *api.Message) { m.Id.N = -1 })
	for n, x := range []struct{ l, want []api.Message }{
		{nil, nil},
		{[]api.Message{}, nil},
		{[]api.Message{one}, []api.Message{one}},
		{[]api.Message{wrong}, nil},
		{[]api.Message{wrong, wide, below}, nil},
		{[]api.Message{one, ahead}, []api.Message{ahead, one}},
		{[]api.Message{ahead, one}, []api.Message{ahead, one}},
		{[]api.Message{one, wrong, ahead}, []api.Message{ahead, one}},
		{[]api.Message{wrong, one, wide, below, ahead, wrong}, []api.Message{ahead, one}},
		{[]api.Message{one, one, ahead, one}, []api.Message{ahead, one, one, one}},
	} {
		if got := msg.Sort(x.l...); !slices.Equal(got, x.want) {
			t.Errorf("%d: %v", n, got)
		}
	}
	if got := msg.Sort(one, wrong, ahead); !slices.Equal(got, []api.Message{ahead, one}) {
		t.Errorf("one by one: %v", got)
	}
}

// What is not right but for its Id is sorted as all others are, and stays as it is.
func TestD2SortKeepsWhatIsNotRight(t *testing.T) {
	far := with(func(m *api.Message) { m.Sender = 16 })
	low := with(func(m *api.Message) { m.Sender = -1 })
	none := with(func(m *api.Message) { m.Number = 0 })
	minus := with(func(m *api.Message) { m.Number, m.Inc, m.Seq = math.MinInt, 0, -1 })
	long := with(func(m *api.Message) { m.Number, m.Data = math.MaxInt, "123456789" })
	want := []api.Message{{}, low, minus, none, plain(), long, far}
	if got := msg.Sort(far, none, long, api.Message{}, plain(), minus, low); !slices.Equal(got, want) {
		t.Errorf("%v", got)
	}
}

// Of those of which neither is less the one that stood ahead stays ahead, however many there are.
func TestD2SortIsStable(t *testing.T) {
	for _, many := range []int{2, 3, 13, 100, 1000} {
		var l []api.Message
		for k := range many {
			l = append(l, api.Message{Id: api.Ident{N: k * 7 % 3}, Sender: k % 2, Inc: many - k, Seq: k + 1, Number: k / 5 % 2, Data: strings.Repeat("x", k%4)})
		}
		if got := msg.Sort(l...); !slices.Equal(got, sorted(l)) {
			t.Errorf("%d: %v", many, got)
		}
	}
	first, second := with(func(m *api.Message) { m.Data = "first" }), with(func(m *api.Message) { m.Data = "second" })
	older := with(func(m *api.Message) { m.Inc, m.Seq = 9, 9 })
	for _, l := range [][]api.Message{{first, second, older}, {older, second, first}, {second, older, first}} {
		if got := msg.Sort(l...); !slices.Equal(got, l) {
			t.Errorf("%v: %v", l, got)
		}
	}
}

func TestD2SortOfAllMessages(t *testing.T) {
	l := messages()
	chance := rand.New(rand.NewSource(4))
	for range 50 {
		chance.Shuffle(len(l), func(i, k int) { l[i], l[k] = l[k], l[i] })
		got := msg.Sort(l...)
		if !slices.Equal(got, sorted(l)) {
			t.Fatalf("%v: %v", l, got)
		}
		for k := range got {
			for _, behind := range got[k+1:] {
				if msg.Less(behind, got[k]) {
					t.Fatalf("%v ahead of %v", got[k], behind)
				}
			}
		}
	}
}

func TestD3Encode(t *testing.T) {
	for n, x := range []struct {
		m api.Message
		s string
	}{
		{plain(), "\x00\x00\x00\x05\x02\x00\x01\x00\x03\x00\x04\x00"},
		{with(func(m *api.Message) { m.Data = "ab" }), "\x00\x00\x00\x05\x02\x00\x01\x00\x03\x00\x04\x02ab"},
		{with(func(m *api.Message) { m.Sender = 0 }), "\x00\x00\x00\x05\x00\x00\x01\x00\x03\x00\x04\x00"},
		{with(func(m *api.Message) { m.Inc = 65535 }), "\x00\x00\x00\x05\x02\xff\xff\x00\x03\x00\x04\x00"},
		{with(func(m *api.Message) { m.Seq = 258 }), "\x00\x00\x00\x05\x02\x00\x01\x01\x02\x00\x04\x00"},
		{with(func(m *api.Message) { m.Number = 256 }), "\x00\x00\x00\x05\x02\x00\x01\x00\x03\x01\x00\x00"},
		{with(func(m *api.Message) { m.Id = api.Ident{N: 2047} }), "\x00\x00\x07\xff\x02\x00\x01\x00\x03\x00\x04\x00"},
		{with(func(m *api.Message) { m.Id = api.Ident{Ext: true} }), "\x80\x00\x00\x00\x02\x00\x01\x00\x03\x00\x04\x00"},
		{
			api.Message{Id: api.Ident{Ext: true, N: two29 - 1}, Sender: 15, Inc: 65535, Seq: 65535, Number: 65535, Data: "\xff\xff\xff\xff\xff\xff\xff\xff"},
			"\x9f\xff\xff\xff\x0f\xff\xff\xff\xff\xff\xff\x08\xff\xff\xff\xff\xff\xff\xff\xff",
		},
	} {
		if s, e := msg.Encode(x.m); s != x.s || e != api.OK {
			t.Errorf("%d: %x, %d, not %x", n, s, e, x.s)
		}
	}
}

func TestD3EncodeOfAllMessages(t *testing.T) {
	for _, m := range messages() {
		want, fault := "", api.ErrArg
		if right(m) {
			want, fault = encoded(m), api.OK
		}
		if s, e := msg.Encode(m); s != want || e != fault {
			t.Errorf("%v: %x, %d, not %x, %d", m, s, e, want, fault)
		}
		if got := msg.Right(m); got != right(m) {
			t.Errorf("%v: %t", m, got)
		}
	}
}

// decodes holds an answer of Decode against the one that is asked for.
func decodes(t *testing.T, s string, want api.Message, behind string, fault api.Errno) {
	t.Helper()
	if m, rest, e := msg.Decode(s); m != want || rest != behind || e != fault {
		t.Errorf("%x: %v, %x, %d, not %v, %x, %d", s, m, rest, e, want, behind, fault)
	}
}

// refused is an error with nothing beside it.
func refused(t *testing.T, s string, fault api.Errno) {
	t.Helper()
	decodes(t, s, api.Message{}, "", fault)
}

func TestD4DecodeOfFewBytes(t *testing.T) {
	for _, head := range []string{encoded(plain()), "\xff\xff\xff\xff\xff\xff\xff\xff\xff\xff\xff\xff", strings.Repeat("\x00", 12)} {
		for cut := range 12 {
			refused(t, head[:cut], api.ErrShort)
		}
	}
}

func TestD4DecodeOfTheTwelfthByte(t *testing.T) {
	head := encoded(plain())[:11]
	for size := range 256 {
		told := head + string([]byte{byte(size)})
		for there := range 20 {
			data := "abcdefghijklmnopqrst"[:there]
			switch {
			case size > 8:
				refused(t, told+data, api.ErrForm)
			case there < size:
				refused(t, told+data, api.ErrShort)
			default:
				decodes(t, told+data, with(func(m *api.Message) { m.Data = data[:size] }), data[size:], api.OK)
			}
		}
	}
	// All that is told is there, and yet it is too much.
	refused(t, head+"\x09"+strings.Repeat("x", 300), api.ErrForm)
	refused(t, head+"\xff"+strings.Repeat("x", 300), api.ErrForm)
}

// The errors' order: what is told too much comes ahead of what is cut, and that ahead of what is not right.
func TestD4DecodeNamesTheFirstError(t *testing.T) {
	wrong := "\xff\xff\xff\xff\xff\x00\x00\x00\x00\x00\x00"
	refused(t, wrong, api.ErrShort)
	refused(t, wrong+"\x09", api.ErrForm)
	refused(t, wrong+"\x08", api.ErrShort)
	refused(t, wrong+"\x081234567", api.ErrShort)
	refused(t, wrong+"\x0812345678", api.ErrForm)
	refused(t, wrong+"\x00", api.ErrForm)
}

func TestD4DecodeCutAnywhere(t *testing.T) {
	for _, m := range rightMessages() {
		s := encoded(m)
		for cut := range len(s) {
			refused(t, s[:cut], api.ErrShort)
		}
		decodes(t, s, m, "", api.OK)
	}
}

func TestD4DecodeOfWhatIsNotRight(t *testing.T) {
	good := encoded(with(func(m *api.Message) { m.Data = "ab" }))
	put := func(at int, b string) string { return good[:at] + b + good[at+len(b):] }
	for _, s := range []string{
		put(0, "\x00\x00\x08\x00"), put(0, "\x00\x01"), put(0, "\x01"), put(0, "\x20"), put(0, "\x40"), put(0, "\x7f"),
		put(0, "\xa0"), put(0, "\xc0"), put(0, "\xff\xff\xff\xff"),
		put(4, "\x10"), put(4, "\x11"), put(4, "\x80"), put(4, "\xff"),
		put(5, "\x00\x00"), put(7, "\x00\x00"), put(9, "\x00\x00"),
		strings.Repeat("\x00", 12), strings.Repeat("\x00", 14),
	} {
		refused(t, s, api.ErrForm)
		refused(t, s+"more", api.ErrForm)
	}
	for at, fields := range map[string]func(m *api.Message){
		put(0, "\x00\x00\x07\xff"): func(m *api.Message) { m.Id.N = 2047 },
		put(0, "\x80"):             func(m *api.Message) { m.Id.Ext = true },
		put(0, "\x9f\xff\xff\xff"): func(m *api.Message) { m.Id = api.Ident{Ext: true, N: two29 - 1} },
		put(4, "\x00"):             func(m *api.Message) { m.Sender = 0 },
		put(4, "\x0f"):             func(m *api.Message) { m.Sender = 15 },
		put(5, "\x01\x00"):         func(m *api.Message) { m.Inc = 256 },
		put(7, "\x12\x34"):         func(m *api.Message) { m.Seq = 4660 },
		put(9, "\xff\xff"):         func(m *api.Message) { m.Number = 65535 },
	} {
		m := with(fields)
		m.Data = "ab"
		decodes(t, at, m, "", api.OK)
	}
}

// Any byte of a message's is set to any other one: just what is right comes out.
func TestD4DecodeOfManyTexts(t *testing.T) {
	for _, first := range []api.Message{
		plain(),
		{Id: api.Ident{Ext: true, N: 0x1234567}, Sender: 15, Inc: 256, Seq: 1, Number: 65535, Data: "12345678"},
	} {
		s := encoded(first)
		for at := range s {
			for b := range 256 {
				decodesBack(t, s[:at]+string([]byte{byte(b)})+s[at+1:]+"behind")
			}
		}
	}
	chance := rand.New(rand.NewSource(5))
	for range 20000 {
		b := make([]byte, chance.Intn(30))
		for k := range b {
			b[k] = byte(chance.Intn(256)) & byte(chance.Intn(256)) & byte(chance.Intn(256))
		}
		decodesBack(t, string(b))
	}
}

// decodesBack tells what is asked for by D4's words.
func decodesBack(t *testing.T, s string) {
	t.Helper()
	if len(s) < 12 {
		refused(t, s, api.ErrShort)
		return
	}
	size := int(s[11])
	if size > 8 {
		refused(t, s, api.ErrForm)
		return
	}
	if len(s) < 12+size {
		refused(t, s, api.ErrShort)
		return
	}
	two := func(at int) int { return int(s[at])*256 + int(s[at+1]) }
	m := api.Message{
		Id:     api.Ident{Ext: s[0] >= 128, N: int(s[0]%128)*16777216 + int(s[1])*65536 + two(2)},
		Sender: int(s[4]), Inc: two(5), Seq: two(7), Number: two(9), Data: s[12 : 12+size],
	}
	if !right(m) {
		refused(t, s, api.ErrForm)
		return
	}
	decodes(t, s, m, s[12+size:], api.OK)
}

func TestD5DecodeUndoesEncode(t *testing.T) {
	behind := []string{"", "\x00", "more", "\xff\xff", strings.Repeat("\x09", 40), encoded(plain())}
	for _, m := range rightMessages() {
		s, e := msg.Encode(m)
		if e != api.OK {
			t.Errorf("%v: %d", m, e)
		}
		for _, more := range behind {
			decodes(t, s+more, m, more, api.OK)
		}
	}
}

func TestD5EncodeOfWhatWasDecodedIsWhatWasTaken(t *testing.T) {
	chance := rand.New(rand.NewSource(6))
	taken := 0
	for range 50000 {
		b := make([]byte, 12+chance.Intn(12))
		chance.Read(b)
		b[0] = byte(chance.Intn(2)*128 + chance.Intn(40))
		b[4] = byte(chance.Intn(18))
		b[11] = byte(chance.Intn(10))
		s := string(b)
		m, rest, e := msg.Decode(s)
		if e != api.OK {
			continue
		}
		taken++
		if back, f := msg.Encode(m); back+rest != s || f != api.OK {
			t.Errorf("%x: %x, %x, %d", s, back, rest, f)
		}
	}
	if taken < 1000 {
		t.Errorf("%d were taken", taken)
	}
}

// Several messages, one behind the other, are told one by one.
func TestD5DecodeOfManyMessages(t *testing.T) {
	l := rightMessages()
	var all strings.Builder
	for _, m := range l {
		all.WriteString(encoded(m))
	}
	s := all.String()
	for n, want := range l {
		m, rest, e := msg.Decode(s)
		if m != want || e != api.OK {
			t.Fatalf("%d: %v, %d, not %v", n, m, e, want)
		}
		s = rest
	}
	if s != "" {
		t.Errorf("%x is left", s)
	}
}

func TestD5SortDoesNotHangOnTheOrder(t *testing.T) {
	var l []api.Message
	for _, i := range append(rightIds(), wrongIds()...) {
		for _, sender := range []int{0, 1, 15} {
			for _, number := range []int{1, 2, 65535} {
				l = append(l, api.Message{Id: i, Sender: sender, Inc: 1 + len(l)%3, Seq: 1 + len(l)%5, Number: number, Data: "12345678"[:len(l)%9]})
			}
		}
	}
	want := sorted(l)
	chance := rand.New(rand.NewSource(7))
	for range 100 {
		chance.Shuffle(len(l), func(i, k int) { l[i], l[k] = l[k], l[i] })
		if got := msg.Sort(l...); !slices.Equal(got, want) {
			t.Fatalf("%v: %v", l, got)
		}
	}
	if again := msg.Sort(want...); !slices.Equal(again, want) {
		t.Errorf("sorted twice: %v", again)
	}
}

// R3: what is handed in stays as it was, what stands behind it too.
func TestWhatIsHandedInStays(t *testing.T) {
	l := messages()
	slices.Reverse(l)
	before := slices.Clone(l)
	for _, end := range []int{0, 1, 2, 10, len(l) - 5, len(l)} {
		msg.Sort(l[:end]...)
		if !slices.Equal(l, before) {
			t.Fatalf("%d: %v", end, l)
		}
	}
	for _, m := range rightMessages() {
		s := encoded(m) + "more"
		kept := bytes.Clone([]byte(s))
		msg.Decode(s)
		if s != string(kept) {
			t.Errorf("%v: %x", m, s)
		}
	}
}

// R3: what comes out is its owner's, spare room too.
func TestWhatComesOutIsNewMemory(t *testing.T) {
	l := []api.Message{with(func(m *api.Message) { m.Number = 9 }), plain(), with(func(m *api.Message) { m.Data = strings.Repeat("ab", 4) })}
	before := slices.Clone(l)
	first, second := msg.Sort(l...), msg.Sort(l...)
	want := slices.Clone(second)
	for k := range first[:cap(first)] {
		first[:cap(first)][k] = api.Message{Data: "x"}
	}
	if !slices.Equal(l, before) || !slices.Equal(second, want) || !slices.Equal(msg.Sort(l...), want) {
		t.Errorf("%v, %v", l, second)
	}
	if data := want[1].Data; data != "abababab" || shares(data, l[2].Data) {
		t.Errorf("%v: Data is what was handed in", want)
	}
	s := encoded(l[2]) + "what stands behind"
	m, rest, _ := msg.Decode(s)
	if m != l[2] || rest != "what stands behind" || shares(m.Data, s) || shares(rest, s) || shares(m.Data, rest) {
		t.Errorf("%v, %q: a piece of what was handed in", m, rest)
	}
}

// R1, R4: at all arguments calls end, and answer the same again.
func TestRulesHoldAtAllArguments(t *testing.T) {
	for _, m := range messages() {
		s, e := msg.Encode(m)
		again, f := msg.Encode(m)
		if s != again || e != f || msg.Right(m) != (e == api.OK) {
			t.Errorf("%v: %x, %d, and then %x, %d", m, s, e, again, f)
		}
	}
	for _, s := range append(texts(), strings.Repeat("\x00", 1000), strings.Repeat("\xff", 1000)) {
		m, rest, e := msg.Decode(s)
		back, left, f := msg.Decode(s)
		if m != back || rest != left || e != f {
			t.Errorf("%q: %v, %q, %d, and then %v, %q, %d", s, m, rest, e, back, left, f)
		}
	}
}
