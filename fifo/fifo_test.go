package fifo_test

import (
	"fmt"
	"math"
	"math/rand"
	"slices"
	"strings"
	"testing"
	"unsafe"

	"omnibus/api"
	"omnibus/fifo"
)

const (
	two18 = 262144
	two29 = 536870912
)

// of is an ordinary message, wide one of an identifier of 29 bits.
func of(id, sender, number int) api.Message {
	return api.Message{Id: api.Ident{N: id}, Sender: sender, Inc: 1, Seq: 1, Number: number}
}

func wide(id, sender, number int) api.Message {
	m := of(id, sender, number)
	m.Id.Ext = true
	return m
}

// with is a message, changed.
func with(m api.Message, change func(m *api.Message)) api.Message {
	change(&m)
	return m
}

func keeps(limit, lost int, l ...api.Message) api.Fifo {
	return api.Fifo{Limit: limit, Lost: lost, Msgs: l}
}

// some are so many messages, which go neither by Id nor by Number.
func some(many int) []api.Message {
	var l []api.Message
	for k := range many {
		l = append(l, with(of(k*37%50, k%16, 1000-k%5), func(m *api.Message) { m.Data = "12345678"[:k%9] }))
	}
	return l
}

// mixed are messages with Ids of both kinds, the greatest ahead of the least, one of them twice.
func mixed() []api.Message {
	return []api.Message{
		wide(two29-1, 15, 11), of(2047, 15, 13), of(5, 1, 4), of(5, 1, 4), wide(5*two18, 0, 65535), of(5, 2, 4), of(5, 1, 3), wide(0, 0, 19), of(0, 0, 20),
	}
}

// limits are ordinary ones, the edges, and what goes far beyond.
func limits() []int {
	return []int{
		-1, 0, 1, 2, 3, 4, 15, 16, 31, 32, 33, 34, 64, 255, 256, 257, 300, 65535, 65536, 65537,
		-2, -32, -33, -256, 1 << 31, 1 << 32, 1<<32 + 1, 1<<32 + 32, math.MaxInt - 1, math.MaxInt, math.MinInt, math.MinInt + 1,
	}
}

// counts are what Lost may be, the edges, and what goes far beyond.
func counts() []int {
	return []int{
		0, 1, 2, 255, 256, 32767, 32768, 65533, 65534, 65535, 65536, 65537,
		-1, -2, -65535, -65536, 1 << 31, 1 << 32, 1<<32 + 1, math.MaxInt - 1, math.MaxInt, math.MinInt, math.MinInt + 1,
	}
}

// wrongMessages may not be, by chapter 4: each one for one reason.
func wrongMessages() []api.Message {
	l := []api.Message{{}}
	for _, change := range []func(m *api.Message){
		func(m *api.Message) { m.Id.N = -1 },
		func(m *api.Message) { m.Id.N = 2048 },
		func(m *api.Message) { m.Id = api.Ident{Ext: true, N: two29} },
		func(m *api.Message) { m.Id = api.Ident{Ext: true, N: -1} },
		func(m *api.Message) { m.Sender = -1 },
		func(m *api.Message) { m.Sender = 16 },
		func(m *api.Message) { m.Inc = 0 },
		func(m *api.Message) { m.Inc = 65536 },
		func(m *api.Message) { m.Seq = 0 },
		func(m *api.Message) { m.Seq = 65536 },
		func(m *api.Message) { m.Number = 0 },
		func(m *api.Message) { m.Number = -1 },
		func(m *api.Message) { m.Number = 65536 },
		func(m *api.Message) { m.Number = math.MaxInt },
		func(m *api.Message) { m.Data = "123456789" },
	} {
		l = append(l, with(of(15, 2, 7), change))
	}
	return l
}

// rightMessages are ordinary ones, and those at the edges.
func rightMessages() []api.Message {
	l := append(mixed(), some(9)...)
	return append(l,
		of(15, 0, 1), of(15, 15, 65535), of(4, 2, 7), of(6, 2, 7), of(7, 2, 7), wide(4, 2, 7), wide(5, 2, 7), wide(2047, 2, 7), wide(2048, 2, 7),
		with(of(15, 2, 7), func(m *api.Message) { m.Inc, m.Seq = 65535, 65535 }), with(of(15, 2, 7), func(m *api.Message) { m.Data = "\x00\xff345678" }),
	)
}

func messages() []api.Message { return append(wrongMessages(), rightMessages()...) }

// wrongFifos may not be: by Limit, by how many Msgs there are, by one of these, by Lost.
func wrongFifos() []api.Fifo {
	l := []api.Fifo{
		{}, keeps(0, 0, of(1, 1, 1)), keeps(-1, 0), keeps(33, 0), keeps(33, 0, of(1, 1, 1)), keeps(math.MaxInt, 0, some(2)...), keeps(math.MinInt, 0),
		keeps(1, 0, some(2)...), keeps(4, 0, some(5)...), keeps(31, 0, some(32)...), keeps(32, 0, some(33)...), keeps(2, 5, some(200)...),
		keeps(4, -1), keeps(4, 65536), keeps(4, -1, some(2)...), keeps(4, 65536, some(4)...), keeps(4, math.MaxInt, some(2)...), keeps(4, math.MinInt, some(4)...),
	}
	for _, m := range wrongMessages() {
		l = append(l, keeps(4, 0, m), keeps(4, 3, m, of(10, 1, 1)), keeps(4, 0, of(10, 1, 1), m), keeps(4, 0, of(10, 1, 1), m, of(20, 1, 2)), keeps(1, 65535, m))
	}
	return l
}

// rightFifos are empty, with room, and full, with Lost at its edges and between.
func rightFifos() []api.Fifo {
	l := []api.Fifo{{Limit: 4, Msgs: []api.Message{}}, keeps(2, 0, of(5, 1, 4), of(5, 1, 4))}
	for _, lost := range []int{0, 1, 300, 65534, 65535} {
		l = append(l, keeps(1, lost), keeps(32, lost), keeps(9, lost, mixed()...), keeps(32, lost, mixed()...))
		for _, many := range []int{1, 2, 3, 16, 31, 32} {
			l = append(l, keeps(many, lost, some(many)...), keeps(32, lost, some(many)...), keeps(min(many+1, 32), lost, some(many)...))
		}
	}
	return l
}

func fifos() []api.Fifo { return append(wrongFifos(), rightFifos()...) }

// five lets what is 5 through, all and allWide whatever is of their kind; wrong ones may not be, by chapter 2.
var (
	five    = api.Filter{Code: 5, Mask: api.MaxShort}
	odd     = api.Filter{Code: 1, Mask: 1}
	all     = api.Filter{}
	allWide = api.Filter{Ext: true}
	wrong   = api.Filter{Code: 5, Mask: 2048}
)

// filters are lists of them: none, one, some, and such that may not be, alone and beside others.
func filters() [][]api.Filter {
	l := [][]api.Filter{
		nil, {}, {five}, {odd}, {all}, {allWide}, {all, allWide}, {allWide, five}, {five, odd, five},
		{{Code: 2047, Mask: 2047}, five}, {five, {Code: 2047, Mask: 2047}}, {{Ext: true, Code: 5 * two18, Mask: two29 - 1}, odd},
		{{Ext: true, Code: 1, Mask: 1}}, {{Ext: true, Code: two29 - 1, Mask: two29 - 1}}, slices.Repeat([]api.Filter{{Code: 2047, Mask: 2047}}, 300),
	}
	for _, f := range []api.Filter{
		wrong, {Code: 2048, Mask: 0}, {Code: -1}, {Mask: -1}, {Code: 5 - 2048, Mask: 1}, {Code: math.MinInt, Mask: 1}, {Code: math.MaxInt, Mask: math.MaxInt},
		{Ext: true, Code: two29}, {Ext: true, Mask: two29}, {Ext: true, Code: -1}, {Ext: true, Mask: math.MinInt},
	} {
		l = append(l, []api.Filter{f}, []api.Filter{f, five}, []api.Filter{odd, f}, []api.Filter{f, allWide, f})
	}
	return l
}

func counted(n int) bool { return n >= 1 && n <= 65535 }

func most(ext bool) int {
	if ext {
		return two29 - 1
	}
	return 2047
}

// rightMessage is chapter 4's, by its words.
func rightMessage(m api.Message) bool {
	return m.Id.N >= 0 && m.Id.N <= most(m.Id.Ext) && m.Sender >= 0 && m.Sender <= 15 && counted(m.Inc) && counted(m.Seq) && counted(m.Number) && len(m.Data) <= 8
}

// through is chapter 2's Any, by its words, of a right identifier.
func through(i api.Ident, l []api.Filter) bool {
	return slices.ContainsFunc(l, func(f api.Filter) bool {
		top := most(f.Ext)
		if f.Code < 0 || f.Code > top || f.Mask < 0 || f.Mask > top || f.Ext != i.Ext {
			return false
		}
		for bit := 1; bit <= top; bit *= 2 {
			if f.Mask/bit%2 == 1 && f.Code/bit%2 != i.N/bit%2 {
				return false
			}
		}
		return true
	})
}

// right is N1's, by its words.
func right(f api.Fifo) bool {
	if f.Limit < 1 || f.Limit > 32 || len(f.Msgs) > f.Limit || f.Lost < 0 || f.Lost > 65535 {
		return false
	}
	for _, m := range f.Msgs {
		if !rightMessage(m) {
			return false
		}
	}
	return true
}

// offered is N2's Offer, by its words.
func offered(f api.Fifo, m api.Message, l []api.Filter) (api.Fifo, int, api.Errno) {
	switch {
	case !right(f) || !rightMessage(m):
		return f, 0, 1
	case !through(m.Id, l):
		return f, 0, 0
	case len(f.Msgs) < f.Limit:
		return keeps(f.Limit, f.Lost, append(slices.Clone(f.Msgs), m)...), 1, 0
	case f.Lost < 65535:
		return keeps(f.Limit, f.Lost+1, f.Msgs...), 2, 0
	}
	return f, 2, 0
}

// taken is N3's Take, by its words.
func taken(f api.Fifo) (api.Fifo, api.Message, api.Errno) {
	if !right(f) {
		return f, api.Message{}, 1
	}
	if len(f.Msgs) == 0 {
		return f, api.Message{}, 41
	}
	return keeps(f.Limit, f.Lost, f.Msgs[1:]...), f.Msgs[0], 0
}

// told is N3's Lost, by its words.
func told(f api.Fifo) (api.Fifo, int, api.Errno) {
	if !right(f) {
		return f, 0, 1
	}
	return keeps(f.Limit, 0, f.Msgs...), f.Lost, 0
}

func same(a, b api.Fifo) bool {
	return a.Limit == b.Limit && a.Lost == b.Lost && slices.Equal(a.Msgs, b.Msgs)
}

func copied(f api.Fifo) api.Fifo { return keeps(f.Limit, f.Lost, slices.Clone(f.Msgs)...) }

// offers holds an answer of Offer against the one that is asked for, takes one of Take, tells one of Lost.
func offers(t *testing.T, f api.Fifo, m api.Message, l []api.Filter, want api.Fifo, what int, fault api.Errno) {
	t.Helper()
	got, how, e := fifo.Offer(f, m, l...)
	if !same(got, want) || how != what || e != fault {
		t.Errorf("Offer of %v to %v by %v: %v, %d, %d, not %v, %d, %d", m, f, l, got, how, e, want, what, fault)
	}
}

func takes(t *testing.T, f api.Fifo, want api.Fifo, first api.Message, fault api.Errno) {
	t.Helper()
	got, m, e := fifo.Take(f)
	if !same(got, want) || m != first || e != fault {
		t.Errorf("Take of %v: %v, %v, %d, not %v, %v, %d", f, got, m, e, want, first, fault)
	}
}

func tells(t *testing.T, f api.Fifo, want api.Fifo, many int, fault api.Errno) {
	t.Helper()
	got, lost, e := fifo.Lost(f)
	if !same(got, want) || lost != many || e != fault {
		t.Errorf("Lost of %v: %v, %d, %d, not %v, %d, %d", f, got, lost, e, want, many, fault)
	}
}

func TestN1New(t *testing.T) {
	for limit, fault := range map[int]api.Errno{
		0: 1, 1: 0, 2: 0, 16: 0, 31: 0, 32: 0, 33: 1, 34: 1, -1: 1, -32: 1, 256 + 4: 1, 1<<32 + 4: 1, math.MaxInt: 1, math.MinInt: 1, math.MinInt + 4: 1,
	} {
		want := api.Fifo{}
		if fault == api.OK {
			want.Limit = limit
		}
		f, e := fifo.New(limit)
		if !same(f, want) || e != fault || fifo.Right(f) != (fault == api.OK) {
			t.Errorf("%d: %v, %d", limit, f, e)
		}
	}
}

func isRight(t *testing.T, name string, f api.Fifo, want bool) {
	t.Helper()
	if got := fifo.Right(f); got != want {
		t.Errorf("%s: %v: %t", name, f, got)
	}
}

func TestN1RightByLimit(t *testing.T) {
	for _, limit := range limits() {
		isRight(t, "without Msgs", keeps(limit, 0), limit >= 1 && limit <= 32)
		isRight(t, "of none", api.Fifo{Limit: limit, Msgs: []api.Message{}}, limit >= 1 && limit <= 32)
		for _, many := range []int{1, 2, 4, 31, 32, 33, 100} {
			isRight(t, "of some", keeps(limit, 0, some(many)...), limit >= many && limit <= 32)
		}
	}
	for limit := range 33 {
		isRight(t, "full", keeps(limit, 0, some(limit)...), limit > 0)
		isRight(t, "one more", keeps(limit, 0, some(limit+1)...), false)
	}
}

func TestN1RightByLost(t *testing.T) {
	for _, lost := range counts() {
		isRight(t, "empty", keeps(4, lost), lost >= 0 && lost <= 65535)
		isRight(t, "with room", keeps(4, lost, some(2)...), lost >= 0 && lost <= 65535)
		isRight(t, "full", keeps(4, lost, some(4)...), lost >= 0 && lost <= 65535)
		isRight(t, "without a Limit", keeps(0, lost), false)
		isRight(t, "too many", keeps(4, lost, some(5)...), false)
	}
}

func TestN1RightByMessages(t *testing.T) {
	for _, m := range rightMessages() {
		isRight(t, "alone", keeps(1, 0, m), true)
		isRight(t, "between", keeps(3, 0, of(14, 1, 2), m, of(16, 1, 3)), true)
	}
	for _, m := range wrongMessages() {
		isRight(t, "alone", keeps(1, 0, m), false)
		isRight(t, "ahead", keeps(3, 0, m, of(16, 1, 2), of(17, 1, 3)), false)
		isRight(t, "between", keeps(3, 0, of(14, 1, 2), m, of(16, 1, 3)), false)
		isRight(t, "behind", keeps(3, 0, of(13, 1, 2), of(14, 1, 3), m), false)
		for at := range 32 {
			l := some(32)
			l[at] = m
			isRight(t, "one of 32", keeps(32, 0, l...), false)
		}
	}
}

func TestN1RightInAnyOrder(t *testing.T) {
	m := of(5, 1, 4)
	isRight(t, "one message twice", keeps(2, 0, m, m), true)
	isRight(t, "one message 32 times", keeps(32, 0, slices.Repeat([]api.Message{m}, 32)...), true)
	isRight(t, "one Number of two Senders", keeps(2, 0, m, of(5, 2, 4)), true)
	isRight(t, "one Number of two Ids", keeps(2, 0, m, of(6, 1, 4)), true)
	for _, other := range []api.Message{of(6, 1, 5), wide(5*two18, 1, 5), of(5, 2, 5), of(5, 1, 5)} {
		isRight(t, "the lesser one first", keeps(2, 0, m, other), true)
		isRight(t, "the greater one first", keeps(2, 0, other, m), true)
	}
	isRight(t, "of both kinds", keeps(9, 0, mixed()...), true)
}

func TestN1RightOfAllFifos(t *testing.T) {
	for _, f := range wrongFifos() {
		isRight(t, "wrong", f, false)
	}
	for _, f := range rightFifos() {
		isRight(t, "right", f, true)
	}
	for _, f := range fifos() {
		isRight(t, "by its words", f, right(f))
	}
}

// Example 1.
func TestTheChaptersExample(t *testing.T) {
	f, e := fifo.New(1)
	a, b := of(5, 0, 1), of(3, 0, 2)
	f, first, g := fifo.Offer(f, a, all)
	f, second, h := fifo.Offer(f, b, all)
	if e != 0 || first != 1 || g != 0 || second != 2 || h != 0 {
		t.Fatal(e, first, g, second, h)
	}
	takes(t, f, keeps(1, 1), a, 0)
	f, _, _ = fifo.Take(f)
	takes(t, f, keeps(1, 1), api.Message{}, 41)
	tells(t, f, keeps(1, 0), 1, 0)
}

func TestN2Stored(t *testing.T) {
	a, b, c := of(7, 1, 4), of(3, 1, 2), of(5, 3, 9)
	for _, x := range []struct {
		name string
		f    api.Fifo
		m    api.Message
		want []api.Message
	}{
		{"to an empty one", keeps(4, 0), c, []api.Message{c}},
		{"to an empty one of 1", keeps(1, 0), c, []api.Message{c}},
		{"to an empty one of 32", keeps(32, 65535), c, []api.Message{c}},
		{"to one of no elements", api.Fifo{Limit: 4, Msgs: []api.Message{}}, c, []api.Message{c}},
		{"behind one", keeps(2, 7, a), c, []api.Message{a, c}},
		{"behind two", keeps(3, 65534, a, b), c, []api.Message{a, b, c}},
		{"where the least one is last", keeps(4, 0, c, a), b, []api.Message{c, a, b}},
		{"one that is there", keeps(4, 0, c, a), c, []api.Message{c, a, c}},
		{"a Number that is there", keeps(4, 0, a), of(5, 9, 4), []api.Message{a, of(5, 9, 4)}},
		{"a wide one", keeps(4, 0, a), wide(5*two18, 0, 1), []api.Message{a, wide(5*two18, 0, 1)}},
		{"the least Id", keeps(4, 0, a), of(0, 0, 1), []api.Message{a, of(0, 0, 1)}},
		{"the greatest Id", keeps(4, 0, a), wide(two29-1, 0, 1), []api.Message{a, wide(two29-1, 0, 1)}},
		{"with bytes", keeps(4, 0, a), with(c, func(m *api.Message) { m.Data = "\x00\xff345678" }), []api.Message{a, with(c, func(m *api.Message) { m.Data = "\x00\xff345678" })}},
	} {
		got, how, e := fifo.Offer(x.f, x.m, allWide, all)
		if !same(got, keeps(x.f.Limit, x.f.Lost, x.want...)) || how != 1 || e != 0 || !fifo.Right(got) {
			t.Errorf("%s: %v, %d, %d", x.name, got, how, e)
		}
	}
}

func TestN2PassedByFilters(t *testing.T) {
	short, other, long := of(5, 1, 4), of(6, 1, 4), wide(5, 1, 4)
	for _, x := range []struct {
		name string
		l    []api.Filter
		m    api.Message
		lets bool
	}{
		{"no filters", nil, short, false},
		{"a list of none", []api.Filter{}, short, false},
		{"no filters, a wide one", nil, long, false},
		{"one that lets through", []api.Filter{five}, short, true},
		{"one that does not", []api.Filter{five}, other, false},
		{"one of the other kind", []api.Filter{allWide}, short, false},
		{"one of the other kind, a wide one", []api.Filter{all}, long, false},
		{"one of its kind, a wide one", []api.Filter{allWide}, long, true},
		{"the letting one ahead", []api.Filter{five, allWide}, short, true},
		{"the letting one behind", []api.Filter{allWide, five}, short, true},
		{"the letting one between", []api.Filter{allWide, five, {Code: 1, Mask: 2047}}, short, true},
		{"two that let through", []api.Filter{five, odd}, short, true},
		{"two that do not", []api.Filter{five, odd}, other, false},
		{"a wrong one", []api.Filter{wrong}, short, false},
		{"a wrong one ahead", []api.Filter{wrong, five}, short, true},
		{"a wrong one behind", []api.Filter{five, wrong}, short, true},
		{"a wrong one beside one that does not", []api.Filter{wrong, five}, other, false},
		{"a wrong one whose bits are alike", []api.Filter{{Code: 2048 + 5, Mask: 2047}}, short, false},
		{"a wrong wide one", []api.Filter{{Ext: true, Code: two29, Mask: 0}}, long, false},
		{"a wrong wide one ahead", []api.Filter{{Ext: true, Mask: two29}, allWide}, long, true},
		{"bits that are not in Mask", []api.Filter{{Code: 2046, Mask: 4}}, short, true},
		{"one bit of Mask that is unlike", []api.Filter{{Code: 4, Mask: 2047}}, short, false},
	} {
		for _, f := range rightFifos() {
			want, what := copied(f), 0
			if x.lets {
				want, what, _ = offered(f, x.m, []api.Filter{all, allWide})
			}
			got, how, e := fifo.Offer(f, x.m, x.l...)
			if !same(got, want) || how != what || e != 0 || how > 0 != x.lets {
				t.Errorf("%s, to %v: %v, %d, %d", x.name, f, got, how, e)
			}
		}
	}
}

func TestN2Dropped(t *testing.T) {
	for _, many := range []int{1, 2, 5, 31, 32} {
		for lost, next := range map[int]int{0: 1, 1: 2, 255: 256, 32767: 32768, 65533: 65534, 65534: 65535, 65535: 65535} {
			f := keeps(many, lost, some(many)...)
			for _, m := range []api.Message{of(0, 0, 7), f.Msgs[0], of(2047, 0, 7), wide(0, 0, 7), wide(two29-1, 0, 7)} {
				offers(t, f, m, []api.Filter{all, allWide}, keeps(many, next, f.Msgs...), 2, 0)
				offers(t, f, m, nil, f, 0, 0)
			}
			// Where there is room nothing is counted.
			less := keeps(many, lost, some(many-1)...)
			offers(t, less, of(9, 0, 7), []api.Filter{all}, keeps(many, lost, append(some(many-1), of(9, 0, 7))...), 1, 0)
		}
	}
}

func TestN2Errors(t *testing.T) {
	bad := with(of(5, 1, 9), func(m *api.Message) { m.Sender = 16 })
	good := of(5, 1, 9)
	for _, x := range []struct {
		name string
		f    api.Fifo
		m    api.Message
	}{
		{"no Limit", keeps(0, 0), good},
		{"too great a Limit", keeps(33, 0), good},
		{"too many", keeps(1, 0, some(2)...), good},
		{"a wrong message in it", keeps(4, 0, bad), good},
		{"a wrong message in a full one", keeps(1, 0, bad), good},
		{"Lost below 0", keeps(4, -1), good},
		{"Lost below 0, of a full one", keeps(1, -1, some(1)...), good},
		{"Lost too great", keeps(4, 65536), good},
		{"Lost too great, of a full one", keeps(1, 65536, some(1)...), good},
		{"a wrong message", keeps(4, 0, some(2)...), bad},
		{"a wrong message to an empty one", keeps(4, 0), bad},
		{"a wrong message to a full one", keeps(2, 0, some(2)...), bad},
		{"an Id that is none", keeps(4, 0), of(2048, 1, 9)},
		{"a wide Id that is none", keeps(4, 0), wide(two29, 1, 9)},
		{"Number 0", keeps(4, 0), of(5, 1, 0)},
		{"Number 65536", keeps(4, 0), of(5, 1, 65536)},
		{"both wrong", keeps(4, -1), bad},
	} {
		// That is asked ahead of what filters let through.
		for _, l := range [][]api.Filter{nil, {all, allWide}, {{Code: 7, Mask: 2047}}, {wrong}} {
			if got, how, e := fifo.Offer(x.f, x.m, l...); !same(got, x.f) || how != 0 || e != 1 {
				t.Errorf("%s, by %v: %v, %d, %d", x.name, l, got, how, e)
			}
		}
	}
}

func TestN2OfAll(t *testing.T) {
	for _, f := range fifos() {
		for _, m := range messages() {
			for _, l := range filters() {
				want, what, fault := offered(f, m, l)
				offers(t, f, m, l, want, what, fault)
				if fault == api.OK && !fifo.Right(want) {
					t.Errorf("%v is not right", want)
				}
			}
		}
	}
}

func TestN3Take(t *testing.T) {
	a, b := of(7, 1, 4), of(3, 1, 2)
	takes(t, keeps(4, 0), keeps(4, 0), api.Message{}, 41)
	takes(t, keeps(1, 65535), keeps(1, 65535), api.Message{}, 41)
	takes(t, api.Fifo{Limit: 4, Msgs: []api.Message{}}, keeps(4, 0), api.Message{}, 41)
	takes(t, keeps(1, 0, a), keeps(1, 0), a, 0)
	takes(t, keeps(32, 9, a), keeps(32, 9), a, 0)
	takes(t, keeps(2, 65535, a, b), keeps(2, 65535, b), a, 0)
	takes(t, keeps(2, 0, a, a), keeps(2, 0, a), a, 0)
	for _, f := range wrongFifos() {
		takes(t, f, f, api.Message{}, 1)
	}
	for _, f := range rightFifos() {
		want, first, fault := taken(f)
		takes(t, f, want, first, fault)
	}
}

func TestN3TakeTillThereIsNone(t *testing.T) {
	for _, f := range rightFifos() {
		all := f.Msgs
		for n, m := range all {
			takes(t, f, keeps(f.Limit, f.Lost, all[n+1:]...), m, 0)
			f, _, _ = fifo.Take(f)
			isRight(t, "what is left", f, true)
		}
		takes(t, f, keeps(f.Limit, f.Lost), api.Message{}, 41)
	}
}

func TestN3Lost(t *testing.T) {
	for _, lost := range []int{0, 1, 2, 255, 256, 65534, 65535} {
		for _, l := range [][]api.Message{nil, {}, some(1), some(3), some(4)} {
			f := keeps(4, lost, l...)
			tells(t, f, keeps(4, 0, l...), lost, 0)
			// It is forgotten then.
			once, _, _ := fifo.Lost(f)
			tells(t, once, keeps(4, 0, l...), 0, 0)
		}
	}
	for _, f := range wrongFifos() {
		tells(t, f, f, 0, 1)
	}
	for _, f := range rightFifos() {
		want, many, fault := told(f)
		tells(t, f, want, many, fault)
	}
}

func TestN3LostCountsAnew(t *testing.T) {
	f := keeps(1, 65535, of(5, 1, 4))
	f, _, _ = fifo.Lost(f)
	for n := range 5 {
		offers(t, f, of(5, 1, 5), []api.Filter{all}, keeps(1, n+1, of(5, 1, 4)), 2, 0)
		f, _, _ = fifo.Offer(f, of(5, 1, 5), all)
	}
	tells(t, f, keeps(1, 0, of(5, 1, 4)), 5, 0)
}

// chosen is some message, such that half of them are let through by odd and allWide together.
func chosen(chance *rand.Rand) api.Message {
	m := of(chance.Intn(8), chance.Intn(16), 1+chance.Intn(4))
	m.Id.Ext = chance.Intn(4) == 0
	m.Inc, m.Seq, m.Data = 1+chance.Intn(3), 1+chance.Intn(9), strings.Repeat("x", chance.Intn(9))
	return m
}

// drained is what is taken of a fifo, one by one.
func drained(t *testing.T, f api.Fifo) []api.Message {
	t.Helper()
	var l []api.Message
	for range len(f.Msgs) + 1 {
		less, m, e := fifo.Take(f)
		if e != api.OK {
			if e != 41 || len(f.Msgs) > 0 {
				t.Fatalf("%v: %d", f, e)
			}
			return l
		}
		l = append(l, m)
		f = less
	}
	t.Fatalf("more are taken than there are: %v", l)
	return nil
}

// Many are offered, and some taken in between: what is taken is what was let through, less what found no room, and that is counted.
func TestN4ManyOffered(t *testing.T) {
	chance := rand.New(rand.NewSource(14))
	for range 300 {
		limit := 1 + chance.Intn(32)
		f, _ := fifo.New(limit)
		var want, got []api.Message
		lost, passed, seldom := 0, 0, 1+chance.Intn(6)
		for range 200 {
			m := chosen(chance)
			next, how, e := fifo.Offer(f, m, odd, allWide)
			lets := m.Id.Ext || m.Id.N%2 == 1
			if e != 0 || how > 0 != lets || how == 2 && len(want)-len(got) < limit {
				t.Fatalf("%v to %v: %d, %d", m, f, how, e)
			}
			switch f = next; how {
			case 0:
				passed++
			case 1:
				want = append(want, m)
			case 2:
				lost++
			}
			if chance.Intn(seldom) == 0 && len(f.Msgs) > 0 {
				less, one, _ := fifo.Take(f)
				f, got = less, append(got, one)
			}
		}
		got = append(got, drained(t, f)...)
		if !slices.Equal(got, want) || len(got)+lost+passed != 200 {
			t.Fatalf("%v, not %v", got, want)
		}
		tells(t, f, keeps(limit, 0, f.Msgs...), lost, 0)
	}
}

// Where all is taken ahead of each offer nothing is lost.
func TestN4AllTakenAhead(t *testing.T) {
	chance := rand.New(rand.NewSource(41))
	for _, limit := range []int{1, 2, 32} {
		f, _ := fifo.New(limit)
		var want, got []api.Message
		for range 500 {
			for range len(f.Msgs) {
				less, m, _ := fifo.Take(f)
				f, got = less, append(got, m)
			}
			m := chosen(chance)
			next, how, e := fifo.Offer(f, m, odd, allWide)
			if how == 2 || e != 0 {
				t.Fatalf("%v to %v: %d, %d", m, f, how, e)
			}
			if f = next; how == 1 {
				want = append(want, m)
			}
		}
		if got = append(got, drained(t, f)...); !slices.Equal(got, want) || f.Lost != 0 {
			t.Fatalf("%d: %v, not %v", f.Lost, got, want)
		}
	}
}

// More than 65535 that find no room: 65535 are told, and those that are there stay.
func TestN4MoreLostThanAreCounted(t *testing.T) {
	for _, limit := range []int{1, 32} {
		f := keeps(limit, 0, some(limit)...)
		for n := 1; n <= 65535+100; n++ {
			next, how, e := fifo.Offer(f, of(5, 1, 1+n%65535), five)
			if how != 2 || e != 0 || next.Lost != min(n, 65535) {
				t.Fatalf("%d: %d, %d, %d", n, next.Lost, how, e)
			}
			f = next
		}
		tells(t, f, keeps(limit, 0, some(limit)...), 65535, 0)
		if got := drained(t, f); !slices.Equal(got, some(limit)) {
			t.Errorf("%v", got)
		}
	}
}

// Calls of all kinds, one behind the other: each answers by its words, and what comes of a right fifo is right.
func TestN4AllCalls(t *testing.T) {
	chance := rand.New(rand.NewSource(4))
	lists := filters()
	for range 200 {
		f, _ := fifo.New(1 + chance.Intn(8))
		for range 80 {
			var got, want string
			var next api.Fifo
			switch chance.Intn(6) {
			case 0, 1:
				g, m, e := fifo.Take(f)
				h, first, fault := taken(f)
				next, got, want = g, fmt.Sprint(g, m, e), fmt.Sprint(h, first, fault)
			case 2:
				g, n, e := fifo.Lost(f)
				h, lost, fault := told(f)
				next, got, want = g, fmt.Sprint(g, n, e), fmt.Sprint(h, lost, fault)
			default:
				m, l := chosen(chance), lists[chance.Intn(len(lists))]
				g, how, e := fifo.Offer(f, m, l...)
				h, what, fault := offered(f, m, l)
				next, got, want = g, fmt.Sprint(g, how, e), fmt.Sprint(h, what, fault)
			}
			if got != want || !fifo.Right(next) {
				t.Fatalf("%v: %s, not %s", f, got, want)
			}
			f = next
		}
	}
}

// R3: what is handed in stays as it was, what stands behind it too.
func TestWhatIsHandedInStays(t *testing.T) {
	for _, f := range fifos() {
		all := append(slices.Clone(f.Msgs), of(2000, 9, 99), of(2001, 9, 98), of(2002, 9, 97))
		before := slices.Clone(all)
		f.Msgs = all[:len(f.Msgs)]
		handed := []api.Filter{odd, allWide, wrong, five}
		fifo.Right(f)
		fifo.Take(f)
		fifo.Lost(f)
		for _, m := range messages() {
			fifo.Offer(f, m, handed[:2]...)
			fifo.Offer(f, m)
		}
		if !slices.Equal(all, before) || !slices.Equal(handed, []api.Filter{odd, allWide, wrong, five}) {
			t.Fatalf("%v: %v, %v", before, all, handed)
		}
	}
}

// fresh is a text in memory of its own, which no constant shares.
func fresh(s string) string { return string([]byte(s)) }

// shares tells whether bytes of a stand in b's memory.
func shares(a, b string) bool {
	if a == "" || b == "" {
		return false
	}
	first, second := uintptr(unsafe.Pointer(unsafe.StringData(a))), uintptr(unsafe.Pointer(unsafe.StringData(b)))
	return first < second+uintptr(len(b)) && second < first+uintptr(len(a))
}

// holding is a fifo whose texts are in memory of their own, with spare room behind its Msgs.
func holding(limit, many int) api.Fifo {
	l := some(many)
	for k := range l {
		l[k].Data = fresh("text")
	}
	spare := append(l, of(2000, 9, 99), of(2001, 9, 98))
	return keeps(limit, 3, spare[:many]...)
}

// apart holds that no text of some stands in another one's memory, or in that of some that were handed in.
func apart(t *testing.T, name string, l, handed []api.Message) {
	t.Helper()
	for k, m := range l {
		for _, other := range append(slices.Clone(handed), l[:k]...) {
			if shares(m.Data, other.Data) {
				t.Errorf("%s: %v shares memory", name, m)
			}
		}
	}
}

// answers are what calls tell of a fifo with messages, none with an error.
func answers(f api.Fifo, m api.Message) map[string]func() (api.Fifo, []api.Message) {
	offer := func(l ...api.Filter) func() (api.Fifo, []api.Message) {
		return func() (api.Fifo, []api.Message) {
			got, _, _ := fifo.Offer(f, m, l...)
			return got, nil
		}
	}
	return map[string]func() (api.Fifo, []api.Message){
		"Take": func() (api.Fifo, []api.Message) {
			got, one, _ := fifo.Take(f)
			return got, []api.Message{one}
		},
		"Lost": func() (api.Fifo, []api.Message) {
			got, _, _ := fifo.Lost(f)
			return got, nil
		},
		"Offer":              offer(all),
		"Offer, not through": offer(),
	}
}

// R3: what comes out is its owner's, spare room too.
func TestWhatComesOutIsNewMemory(t *testing.T) {
	for _, f := range []api.Fifo{holding(32, 1), holding(1, 1), holding(32, 5), holding(5, 5), holding(32, 31), holding(32, 32)} {
		handed := f.Msgs[:cap(f.Msgs)]
		before := slices.Clone(handed)
		m := with(of(5, 1, 7), func(m *api.Message) { m.Data = fresh("abcdefgh") })
		for name, call := range answers(f, m) {
			first, one := call()
			second, other := call()
			want := copied(second)
			apart(t, name, slices.Concat(first.Msgs, one, second.Msgs, other), append(slices.Clone(handed), m))
			for k := range first.Msgs[:cap(first.Msgs)] {
				first.Msgs[:cap(first.Msgs)][k] = api.Message{Data: "written"}
			}
			if third, _ := call(); !same(second, want) || !same(third, want) || !slices.Equal(handed, before) {
				t.Errorf("%s of %v: %v, %v", name, f, second, third)
			}
		}
	}
	first, _ := fifo.New(4)
	first.Msgs = append(first.Msgs, of(1, 1, 1))
	if second, _ := fifo.New(4); !same(second, keeps(4, 0)) {
		t.Errorf("%v", second)
	}
}

// Nothing that is answered of an empty fifo is kept for the next one.
func TestWhatComesOutOfAnEmptyOne(t *testing.T) {
	room := make([]api.Message, 0, 8)
	f := api.Fifo{Limit: 4, Msgs: room}
	for range 3 {
		got, how, e := fifo.Offer(f, of(5, 1, 7), five)
		if !same(got, keeps(4, 0, of(5, 1, 7))) || how != 1 || e != 0 {
			t.Fatalf("%v, %d, %d", got, how, e)
		}
		for k := range got.Msgs[:cap(got.Msgs)] {
			got.Msgs[:cap(got.Msgs)][k] = of(9, 9, 9)
		}
		if !slices.Equal(room[:8], make([]api.Message, 8)) {
			t.Fatalf("%v", room[:8])
		}
	}
}

// R1, R4: at all arguments calls end, and answer the same again; with an error the fifo is as it was, and nothing else is told.
func TestRulesHoldAtAllArguments(t *testing.T) {
	for _, limit := range limits() {
		f, e := fifo.New(limit)
		again, g := fifo.New(limit)
		if !same(f, again) || e != g || e != api.OK && !same(f, api.Fifo{}) {
			t.Errorf("%d: %v, %d, and then %v, %d", limit, f, e, again, g)
		}
	}
	l := append(fifos(), keeps(4, 0, slices.Repeat(some(32), 1000)...))
	for _, limit := range limits() {
		for _, lost := range counts() {
			l = append(l, keeps(limit, lost), keeps(limit, lost, some(2)...))
		}
	}
	for _, f := range l {
		for range 2 {
			want, m, fault := taken(f)
			takes(t, f, want, m, fault)
			want, lost, fault := told(f)
			tells(t, f, want, lost, fault)
			for _, m := range messages() {
				want, what, fault := offered(f, m, []api.Filter{wrong, odd, allWide})
				offers(t, f, m, []api.Filter{wrong, odd, allWide}, want, what, fault)
			}
		}
		if fifo.Right(f) != right(f) || fifo.Right(f) != fifo.Right(f) {
			t.Errorf("%v: %t", f, fifo.Right(f))
		}
	}
}
