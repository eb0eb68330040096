package txq_test

import (
	"math"
	"math/rand"
	"slices"
	"strings"
	"testing"
	"unsafe"

	"omnibus/api"
	"omnibus/txq"
)

const (
	two18 = 262144
	two29 = 536870912
)

// of is an ordinary message, wide one of an identifier of 29 bits.
func of(id, sender, number int) api.Message {
	return api.Message{Id: api.Ident{N: id}, Sender: sender, Inc: 1, Seq: 1, Number: number}
}

func wide(id, sender, number int) api.Message {
	m := of(id, sender, number)
	m.Id.Ext = true
	return m
}

// with is a message, changed.
func with(m api.Message, change func(m *api.Message)) api.Message {
	change(&m)
	return m
}

func queue(limit int, l ...api.Message) api.Queue { return api.Queue{Limit: limit, Msgs: l} }

// some are so many messages in order, whose Numbers are 1000 and below it, the first one's being the greatest.
func some(many int) []api.Message {
	var l []api.Message
	for k := range many {
		l = append(l, with(of(10*k+10, k%16, 1000-k), func(m *api.Message) { m.Data = "12345678"[:k%9] }))
	}
	return l
}

// mixed are messages in order, with Ids of both kinds, one Id from two Senders, and two Numbers of one Sender.
func mixed() []api.Message {
	return []api.Message{
		of(0, 0, 20), wide(0, 0, 19), wide(two18-1, 3, 18), of(1, 2, 17), of(5, 1, 4), of(5, 1, 9), of(5, 2, 3), of(5, 15, 1),
		wide(5*two18, 0, 16), wide(5*two18, 0, 65535), wide(5*two18+77, 15, 15), of(6, 0, 14), of(2047, 15, 13), wide(two29-1, 0, 12), wide(two29-1, 15, 11),
	}
}

// limits are ordinary ones, the edges, and what goes far beyond.
func limits() []int {
	return []int{
		-1, 0, 1, 2, 3, 4, 15, 16, 31, 32, 33, 34, 64, 255, 256, 257, 300, 65535, 65536, 65537,
		-2, -32, -33, -256, 1 << 31, 1 << 32, 1<<32 + 1, 1<<32 + 32, math.MaxInt - 1, math.MaxInt, math.MinInt, math.MinInt + 1,
	}
}

// numbers are those of messages, the edges, and what goes far beyond.
func numbers() []int {
	return []int{
		0, 1, 2, 3, 4, 5, 9, 11, 16, 17, 20, 21, 968, 969, 985, 999, 1000, 1001, 65534, 65535, 65536, 65537,
		-1, -4, -1000, -65535, 65536 + 4, 65536 + 1000, 1 << 31, 1 << 32, 1<<32 + 4, 1<<32 + 1000, math.MaxInt, math.MinInt, math.MinInt + 4, math.MinInt + 1000,
	}
}

// wrongMessages may not be, by chapter 4: each one for one reason.
func wrongMessages() []api.Message {
	l := []api.Message{{}}
	for _, change := range []func(m *api.Message){
		func(m *api.Message) { m.Id.N = -1 },
		func(m *api.Message) { m.Id.N = 2048 },
		func(m *api.Message) { m.Id = api.Ident{Ext: true, N: two29} },
		func(m *api.Message) { m.Id = api.Ident{Ext: true, N: -1} },
		func(m *api.Message) { m.Sender = -1 },
		func(m *api.Message) { m.Sender = 16 },
		func(m *api.Message) { m.Inc = 0 },
		func(m *api.Message) { m.Inc = 65536 },
		func(m *api.Message) { m.Seq = 0 },
		func(m *api.Message) { m.Seq = 65536 },
		func(m *api.Message) { m.Number = 0 },
		func(m *api.Message) { m.Number = -1 },
		func(m *api.Message) { m.Number = 65536 },
		func(m *api.Message) { m.Number = math.MaxInt },
		func(m *api.Message) { m.Data = "123456789" },
	} {
		l = append(l, with(of(15, 2, 7), change))
	}
	return l
}

// messages are right ones, that go in among those of queues in all places, with Numbers that are there, and others, and wrong ones.
func messages() []api.Message {
	l := append(wrongMessages(), mixed()...)
	for _, id := range []int{0, 5, 10, 11, 15, 20, 165, 310, 315, 320, 330, 2047} {
		for _, number := range []int{1, 7, 969, 985, 1000, 65535} {
			l = append(l, of(id, 2, number), wide(id*two18, 1, number))
		}
	}
	return l
}

// wrongQueues may not be: by Limit, by how many Msgs there are, by one of these, by their order, by their Numbers.
func wrongQueues() []api.Queue {
	l := []api.Queue{
		{}, queue(0, of(1, 1, 1)), queue(-1), queue(33), queue(33, of(1, 1, 1)), queue(math.MaxInt, some(2)...), queue(math.MinInt),
		queue(1, some(2)...), queue(4, some(5)...), queue(31, some(32)...), queue(32, some(33)...), queue(2, some(200)...),
		queue(4, of(2, 1, 1), of(1, 1, 2)), queue(4, of(1, 1, 1), of(1, 1, 1)), queue(4, of(1, 1, 1), of(2, 1, 1)), queue(4, of(1, 1, 1), of(1, 2, 1)),
		queue(4, of(1, 2, 1), of(1, 1, 2)), queue(4, of(1, 1, 2), of(1, 1, 1)), queue(4, wide(two18, 1, 1), of(1, 1, 2)),
		queue(8, of(1, 1, 1), of(2, 1, 2), of(4, 1, 3), of(3, 1, 4)), queue(8, of(1, 1, 1), of(2, 1, 2), of(3, 1, 3), of(4, 1, 1)),
	}
	for _, m := range wrongMessages() {
		l = append(l, queue(4, m), queue(4, of(10, 1, 1), m), queue(4, of(10, 1, 1), m, of(20, 1, 2)), queue(1, m))
	}
	return l
}

// rightQueues are empty, with room, and full.
func rightQueues() []api.Queue {
	l := []api.Queue{queue(1), queue(32), {Limit: 4, Msgs: []api.Message{}}, queue(15, mixed()...), queue(32, mixed()...), queue(2, wide(5, 1, 7), of(5, 1, 4))}
	for _, many := range []int{1, 2, 3, 16, 31, 32} {
		l = append(l, queue(many, some(many)...), queue(32, some(many)...), queue(min(many+1, 32), some(many)...))
	}
	return l
}

func queues() []api.Queue { return append(wrongQueues(), rightQueues()...) }

func counted(n int) bool { return n >= 1 && n <= 65535 }

// rightMessage is chapter 4's, by its words.
func rightMessage(m api.Message) bool {
	most := 2047
	if m.Id.Ext {
		most = two29 - 1
	}
	return m.Id.N >= 0 && m.Id.N <= most && m.Sender >= 0 && m.Sender <= 15 && counted(m.Inc) && counted(m.Seq) && counted(m.Number) && len(m.Data) <= 8
}

// key is chapter 2's, by its words, of a right identifier.
func key(i api.Ident) int {
	if i.Ext {
		return i.N/two18*2*two18 + two18 + i.N%two18
	}
	return i.N * 2 * two18
}

// less is chapter 4's, by its words, of right messages.
func less(a, b api.Message) bool {
	if a.Id != b.Id {
		return key(a.Id) < key(b.Id)
	}
	return a.Sender < b.Sender || a.Sender == b.Sender && a.Number < b.Number
}

// right is M1's, by its words.
func right(q api.Queue) bool {
	if q.Limit < 1 || q.Limit > 32 || len(q.Msgs) > q.Limit {
		return false
	}
	seen := map[int]bool{}
	for k, m := range q.Msgs {
		if !rightMessage(m) || seen[m.Number] || k > 0 && !less(q.Msgs[k-1], m) {
			return false
		}
		seen[m.Number] = true
	}
	return true
}

func at(q api.Queue, number int) int {
	return slices.IndexFunc(q.Msgs, func(m api.Message) bool { return m.Number == number })
}

// put is M2's, by its words: what is put behind all goes ahead, as long as it is less than what is there.
func put(q api.Queue, m api.Message) (api.Queue, api.Errno) {
	if !right(q) || !rightMessage(m) {
		return q, api.ErrArg
	}
	if at(q, m.Number) >= 0 {
		return q, api.ErrTwice
	}
	if len(q.Msgs) == q.Limit {
		return q, api.ErrFull
	}
	l := append(slices.Clone(q.Msgs), m)
	for k := len(l) - 1; k > 0 && less(l[k], l[k-1]); k-- {
		l[k], l[k-1] = l[k-1], l[k]
	}
	return queue(q.Limit, l...), api.OK
}

// aborted is M3's Abort, by its words.
func aborted(q api.Queue, number int) (api.Queue, api.Message, api.Errno) {
	if !right(q) {
		return q, api.Message{}, api.ErrArg
	}
	k := at(q, number)
	if k < 0 {
		return q, api.Message{}, api.ErrNone
	}
	return queue(q.Limit, slices.Delete(slices.Clone(q.Msgs), k, k+1)...), q.Msgs[k], api.OK
}

// taken is M3's Take, by its words.
func taken(q api.Queue) (api.Queue, api.Message, api.Errno) {
	if right(q) && len(q.Msgs) > 0 {
		return aborted(q, q.Msgs[0].Number)
	}
	return aborted(q, -1)
}

func same(a, b api.Queue) bool { return a.Limit == b.Limit && slices.Equal(a.Msgs, b.Msgs) }

func copied(q api.Queue) api.Queue { return queue(q.Limit, slices.Clone(q.Msgs)...) }

// puts holds an answer of Put against the one that is asked for, takes one of Take, and of First by the way, aborts one of Abort.
func puts(t *testing.T, q api.Queue, m api.Message, want api.Queue, fault api.Errno) {
	t.Helper()
	got, e := txq.Put(q, m)
	if !same(got, want) || e != fault {
		t.Errorf("Put of %v into %v: %v, %d, not %v, %d", m, q, got, e, want, fault)
	}
}

func takes(t *testing.T, q api.Queue, want api.Queue, first api.Message, fault api.Errno) {
	t.Helper()
	if m, is := txq.First(q); m != first || is != (fault == api.OK) {
		t.Errorf("First of %v: %v, %t, not %v", q, m, is, first)
	}
	got, m, e := txq.Take(q)
	if !same(got, want) || m != first || e != fault {
		t.Errorf("Take of %v: %v, %v, %d, not %v, %v, %d", q, got, m, e, want, first, fault)
	}
}

func aborts(t *testing.T, q api.Queue, number int, want api.Queue, that api.Message, fault api.Errno) {
	t.Helper()
	got, m, e := txq.Abort(q, number)
	if !same(got, want) || m != that || e != fault {
		t.Errorf("Abort of %d in %v: %v, %v, %d, not %v, %v, %d", number, q, got, m, e, want, that, fault)
	}
}

func TestM1New(t *testing.T) {
	for limit, fault := range map[int]api.Errno{
		0: api.ErrArg, 1: api.OK, 2: api.OK, 16: api.OK, 31: api.OK, 32: api.OK, 33: api.ErrArg, 34: api.ErrArg, -1: api.ErrArg, -32: api.ErrArg,
		256 + 4: api.ErrArg, 1<<32 + 4: api.ErrArg, math.MaxInt: api.ErrArg, math.MinInt: api.ErrArg, math.MinInt + 4: api.ErrArg,
	} {
		want := api.Queue{}
		if fault == api.OK {
			want.Limit = limit
		}
		q, e := txq.New(limit)
		if !same(q, want) || e != fault || txq.Right(q) != (fault == api.OK) {
			t.Errorf("%d: %v, %d", limit, q, e)
		}
	}
}

func isRight(t *testing.T, name string, q api.Queue, want bool) {
	t.Helper()
	if got := txq.Right(q); got != want {
		t.Errorf("%s: %v: %t", name, q, got)
	}
}

func TestM1RightByLimit(t *testing.T) {
	for _, limit := range limits() {
		isRight(t, "without Msgs", queue(limit), limit >= 1 && limit <= 32)
		isRight(t, "of none", api.Queue{Limit: limit, Msgs: []api.Message{}}, limit >= 1 && limit <= 32)
		for _, many := range []int{1, 2, 4, 31, 32, 33, 100} {
			isRight(t, "of some", queue(limit, some(many)...), limit >= many && limit <= 32)
		}
	}
	for limit := range 33 {
		isRight(t, "full", queue(limit, some(limit)...), limit > 0)
		isRight(t, "one more", queue(limit, some(limit+1)...), false)
	}
}

func TestM1RightByMessages(t *testing.T) {
	for _, m := range []api.Message{
		of(15, 2, 7), of(15, 0, 1), of(15, 15, 65535), wide(15*two18+3, 2, 7),
		with(of(15, 2, 7), func(m *api.Message) { m.Inc, m.Seq = 65535, 65535 }), with(of(15, 2, 7), func(m *api.Message) { m.Data = "12345678" }),
	} {
		isRight(t, "alone", queue(1, m), true)
		isRight(t, "between", queue(3, of(14, 1, 2), m, of(16, 1, 3)), true)
	}
	isRight(t, "the least and the greatest Id", queue(2, of(0, 1, 2), wide(two29-1, 1, 3)), true)
	for _, m := range wrongMessages() {
		isRight(t, "alone", queue(1, m), false)
		isRight(t, "ahead", queue(3, m, of(16, 1, 2), of(17, 1, 3)), false)
		isRight(t, "between", queue(3, of(14, 1, 2), m, of(16, 1, 3)), false)
		isRight(t, "behind", queue(3, of(13, 1, 2), of(14, 1, 3), m), false)
	}
}

func TestM1RightByOrder(t *testing.T) {
	for _, x := range []struct {
		name string
		a, b api.Message // a goes ahead of b
	}{
		{"by Id", of(1, 9, 2), of(2, 1, 1)},
		{"wide Ids", wide(two18-1, 9, 2), wide(two18, 1, 1)},
		{"a short one of the same base", of(5, 9, 2), wide(5*two18, 1, 1)},
		{"a wide one of a lesser base", wide(5*two18-1, 9, 2), of(5, 1, 1)},
		{"a wide one of the base 0", wide(2047, 9, 2), of(1, 1, 1)},
		{"by Sender", of(5, 1, 2), of(5, 2, 1)},
		{"by Number", of(5, 1, 1), of(5, 1, 2)},
	} {
		low, high := of(0, 0, 900), wide(two29-1, 15, 800)
		isRight(t, x.name, queue(2, x.a, x.b), true)
		isRight(t, x.name+", the wrong way round", queue(2, x.b, x.a), false)
		isRight(t, x.name+", among others", queue(4, low, x.a, x.b, high), true)
		isRight(t, x.name+", the wrong way round among others", queue(4, low, x.b, x.a, high), false)
	}
	// What is Inc, Seq and Data has no part in it.
	first := with(of(5, 1, 1), func(m *api.Message) { m.Inc, m.Seq, m.Data = 9, 9, "z" })
	isRight(t, "a later start", queue(2, first, of(5, 1, 2)), true)
	for n := range 31 {
		l := some(32)
		l[n], l[n+1] = l[n+1], l[n]
		isRight(t, "two of 32", queue(32, l...), false)
	}
	isRight(t, "of all kinds", queue(15, mixed()...), true)
}

func TestM1RightByNumbers(t *testing.T) {
	m := of(5, 1, 4)
	isRight(t, "one message twice", queue(4, m, m), false)
	isRight(t, "but for Inc, Seq and Data", queue(4, m, with(m, func(m *api.Message) { m.Inc, m.Seq, m.Data = 2, 2, "a" })), false)
	isRight(t, "Ids that are unlike", queue(4, m, of(6, 1, 4)), false)
	isRight(t, "Ids of both kinds", queue(4, m, wide(5*two18, 1, 4)), false)
	isRight(t, "two Senders", queue(4, m, of(5, 2, 4)), false)
	isRight(t, "other Incs", queue(4, m, with(of(6, 1, 4), func(m *api.Message) { m.Inc = 2 })), false)
	isRight(t, "the first and the last one", queue(4, m, of(6, 1, 5), of(7, 1, 6), of(8, 1, 4)), false)
	isRight(t, "falling Numbers", queue(4, of(4, 1, 3), of(5, 1, 2), of(6, 1, 1)), true)
	isRight(t, "one Seq", queue(4, of(4, 1, 1), of(5, 1, 2)), true)
	for n := range 32 {
		for k := range n {
			l := some(32)
			l[n].Number = l[k].Number
			isRight(t, "two of 32", queue(32, l...), false)
		}
	}
}

func TestM1RightOfAllQueues(t *testing.T) {
	for _, q := range wrongQueues() {
		isRight(t, "wrong", q, false)
	}
	for _, q := range rightQueues() {
		isRight(t, "right", q, true)
	}
	for _, q := range queues() {
		isRight(t, "by its words", q, right(q))
	}
}

// Example 1.
func TestTheChaptersExample(t *testing.T) {
	q, _ := txq.New(4)
	q, e := txq.Put(q, of(5, 0, 1))
	q, f := txq.Put(q, of(3, 0, 2))
	if e != api.OK || f != api.OK {
		t.Fatal(e, f)
	}
	takes(t, q, queue(4, of(5, 0, 1)), of(3, 0, 2), api.OK)
	q, _, _ = txq.Take(q)
	takes(t, q, queue(4), of(5, 0, 1), api.OK)
	q, _, _ = txq.Take(q)
	takes(t, q, queue(4), api.Message{}, api.ErrNone)
}

func TestM2Put(t *testing.T) {
	a, b, c := of(5, 1, 4), of(7, 1, 2), of(7, 3, 9)
	for _, x := range []struct {
		name string
		q    api.Queue
		m    api.Message
		want []api.Message
	}{
		{"into an empty one", queue(4), a, []api.Message{a}},
		{"into an empty one of 1", queue(1), a, []api.Message{a}},
		{"into one of no elements", api.Queue{Limit: 32, Msgs: []api.Message{}}, a, []api.Message{a}},
		{"ahead of all", queue(4, a, b, c), of(4, 9, 10), []api.Message{of(4, 9, 10), a, b, c}},
		{"ahead of one", queue(2, a), of(4, 1, 5), []api.Message{of(4, 1, 5), a}},
		{"between two", queue(4, a, b, c), of(6, 9, 10), []api.Message{a, of(6, 9, 10), b, c}},
		{"between the last two", queue(4, a, b, c), of(7, 2, 10), []api.Message{a, b, of(7, 2, 10), c}},
		{"behind all", queue(4, a, b, c), of(8, 0, 1), []api.Message{a, b, c, of(8, 0, 1)}},
		{"behind one", queue(2, a), of(6, 1, 1), []api.Message{a, of(6, 1, 1)}},
		{"one Id, a lesser Sender", queue(4, a), of(5, 0, 9), []api.Message{of(5, 0, 9), a}},
		{"one Id, a greater Sender", queue(4, a), of(5, 2, 1), []api.Message{a, of(5, 2, 1)}},
		{"one Id and Sender, a lesser Number", queue(4, a), of(5, 1, 3), []api.Message{of(5, 1, 3), a}},
		{"one Id and Sender, a greater Number", queue(4, a), of(5, 1, 9), []api.Message{a, of(5, 1, 9)}},
		{"one Id and Sender, between two Numbers", queue(4, b, of(7, 1, 8)), of(7, 1, 5), []api.Message{b, of(7, 1, 5), of(7, 1, 8)}},
		{"a later start of one Id and Sender", queue(4, a), with(of(5, 1, 3), func(m *api.Message) { m.Inc, m.Seq = 9, 9 }), []api.Message{with(of(5, 1, 3), func(m *api.Message) { m.Inc, m.Seq = 9, 9 }), a}},
		{"a wide one behind the short one of its base", queue(4, a, b), wide(5*two18, 0, 1), []api.Message{a, wide(5*two18, 0, 1), b}},
		{"a short one ahead of the wide one of its base", queue(4, wide(5*two18, 0, 1), b), a, []api.Message{a, wide(5*two18, 0, 1), b}},
		{"a wide one of a lesser base", queue(4, a, b), wide(5*two18-1, 9, 9), []api.Message{wide(5*two18-1, 9, 9), a, b}},
		{"the least Id", queue(4, wide(0, 0, 1)), of(0, 15, 9), []api.Message{of(0, 15, 9), wide(0, 0, 1)}},
		{"the greatest Id", queue(4, of(2047, 15, 9)), wide(two29-1, 0, 1), []api.Message{of(2047, 15, 9), wide(two29-1, 0, 1)}},
		{"with bytes", queue(4, a), with(of(4, 1, 5), func(m *api.Message) { m.Data = "\x00\xff345678" }), []api.Message{with(of(4, 1, 5), func(m *api.Message) { m.Data = "\x00\xff345678" }), a}},
	} {
		if got, e := txq.Put(x.q, x.m); !same(got, queue(x.q.Limit, x.want...)) || e != api.OK || !txq.Right(got) {
			t.Errorf("%s: %v, %d", x.name, got, e)
		}
	}
}

func TestM2PutAtEachPlace(t *testing.T) {
	for n := range 32 {
		l := some(32)
		m := l[n]
		puts(t, queue(32, slices.Delete(slices.Clone(l), n, n+1)...), m, queue(32, l...), api.OK)
	}
	for n, m := range mixed() {
		l := mixed()
		puts(t, queue(15, slices.Delete(slices.Clone(l), n, n+1)...), m, queue(15, l...), api.OK)
	}
}

func TestM2PutErrors(t *testing.T) {
	a, b := of(5, 1, 4), of(7, 1, 2)
	wrong := with(of(6, 1, 9), func(m *api.Message) { m.Sender = 16 })
	for _, x := range []struct {
		name  string
		q     api.Queue
		m     api.Message
		fault api.Errno
	}{
		{"a wrong queue", queue(4, b, a), of(6, 1, 9), api.ErrArg},
		{"a wrong queue with that Number", queue(4, b, a), of(6, 1, 4), api.ErrArg},
		{"a wrong queue that is full", queue(2, b, a), of(6, 1, 9), api.ErrArg},
		{"too many", queue(1, a, b), of(6, 1, 9), api.ErrArg},
		{"no Limit", queue(0), of(6, 1, 9), api.ErrArg},
		{"too great a Limit", queue(33), of(6, 1, 9), api.ErrArg},
		{"a wrong message", queue(4, a, b), wrong, api.ErrArg},
		{"a wrong message into an empty one", queue(4), wrong, api.ErrArg},
		{"a wrong message whose Number is there", queue(4, a, b), with(wrong, func(m *api.Message) { m.Number = 4 }), api.ErrArg},
		{"a wrong message into a full one", queue(2, a, b), wrong, api.ErrArg},
		{"a wrong message whose Number is there, into a full one", queue(2, a, b), with(wrong, func(m *api.Message) { m.Number = 4 }), api.ErrArg},
		{"both wrong", queue(4, b, a), wrong, api.ErrArg},
		{"Number 0", queue(4, a), of(6, 1, 0), api.ErrArg},
		{"Number 65536", queue(4, a), of(6, 1, 65536), api.ErrArg},
		{"a Number that is there", queue(4, a, b), of(6, 1, 4), api.ErrTwice},
		{"a Number that is there, the last one's", queue(4, a, b), of(6, 1, 2), api.ErrTwice},
		{"a Number that is there, ahead of all", queue(4, a, b), of(1, 1, 2), api.ErrTwice},
		{"a Number that is there, behind all", queue(4, a, b), of(9, 1, 4), api.ErrTwice},
		{"a Number that is there, of another Sender", queue(4, a, b), of(6, 2, 4), api.ErrTwice},
		{"a Number that is there, of another Inc", queue(4, a, b), with(of(6, 1, 4), func(m *api.Message) { m.Inc = 2 }), api.ErrTwice},
		{"a Number that is there, of an Id of the other kind", queue(4, a, b), wide(6*two18, 1, 4), api.ErrTwice},
		{"the message itself", queue(4, a, b), a, api.ErrTwice},
		{"a Number that is there, in a full one", queue(2, a, b), of(6, 1, 4), api.ErrTwice},
		{"the message itself, in a full one", queue(2, a, b), b, api.ErrTwice},
		{"a full one", queue(2, a, b), of(6, 1, 9), api.ErrFull},
		{"a full one, ahead of all", queue(2, a, b), of(1, 1, 9), api.ErrFull},
		{"a full one, behind all", queue(2, a, b), of(9, 1, 9), api.ErrFull},
		{"a full one of 1", queue(1, a), b, api.ErrFull},
		{"a full one of 32", queue(32, some(32)...), of(5, 1, 9), api.ErrFull},
	} {
		if got, e := txq.Put(x.q, x.m); !same(got, x.q) || e != x.fault {
			t.Errorf("%s: %v, %d", x.name, got, e)
		}
	}
}

func TestM2PutOfAll(t *testing.T) {
	for _, q := range queues() {
		for _, m := range messages() {
			want, fault := put(q, m)
			puts(t, q, m, want, fault)
			if fault == api.OK && !txq.Right(want) {
				t.Errorf("%v is not right", want)
			}
		}
	}
}

func TestM3FirstAndTake(t *testing.T) {
	takes(t, queue(4), queue(4), api.Message{}, api.ErrNone)
	takes(t, api.Queue{Limit: 1, Msgs: []api.Message{}}, queue(1), api.Message{}, api.ErrNone)
	takes(t, queue(1, of(5, 1, 4)), queue(1), of(5, 1, 4), api.OK)
	takes(t, queue(32, of(5, 1, 4)), queue(32), of(5, 1, 4), api.OK)
	for _, q := range wrongQueues() {
		takes(t, q, q, api.Message{}, api.ErrArg)
	}
	for _, q := range rightQueues() {
		want, first, fault := taken(q)
		takes(t, q, want, first, fault)
	}
}

func TestM3TakeTillThereIsNone(t *testing.T) {
	for _, q := range rightQueues() {
		all := q.Msgs
		for n, m := range all {
			takes(t, q, queue(q.Limit, all[n+1:]...), m, api.OK)
			q, _, _ = txq.Take(q)
		}
		takes(t, q, queue(q.Limit), api.Message{}, api.ErrNone)
	}
}

func TestM3Abort(t *testing.T) {
	a, b, c := of(5, 1, 4), of(7, 1, 2), with(of(7, 3, 65535), func(m *api.Message) { m.Data = "abc" })
	for _, x := range []struct {
		name   string
		q      api.Queue
		number int
		want   []api.Message
		that   api.Message
	}{
		{"the first one", queue(4, a, b, c), 4, []api.Message{b, c}, a},
		{"one between", queue(4, a, b, c), 2, []api.Message{a, c}, b},
		{"the last one", queue(4, a, b, c), 65535, []api.Message{a, b}, c},
		{"of a full one", queue(3, a, b, c), 2, []api.Message{a, c}, b},
		{"the only one", queue(1, a), 4, nil, a},
	} {
		got, m, e := txq.Abort(x.q, x.number)
		if !same(got, queue(x.q.Limit, x.want...)) || m != x.that || e != api.OK || !txq.Right(got) {
			t.Errorf("%s: %v, %v, %d", x.name, got, m, e)
		}
	}
	q := queue(4, a, b, c)
	// Two is the third one's place, and the second one's Number; the others are none's, though some end in the same bits.
	for _, number := range []int{0, 1, 3, 5, 7, 65534, 65536, 65536 + 2, 65536 + 4, 1<<32 + 2, 1<<32 + 4, -1, -2, -4, math.MaxInt, math.MinInt, math.MinInt + 2, math.MinInt + 4} {
		aborts(t, q, number, q, api.Message{}, api.ErrNone)
	}
}

func TestM3AbortOfAll(t *testing.T) {
	for _, q := range wrongQueues() {
		for _, number := range numbers() {
			aborts(t, q, number, q, api.Message{}, api.ErrArg)
		}
		for _, m := range q.Msgs {
			aborts(t, q, m.Number, q, api.Message{}, api.ErrArg)
		}
	}
	for _, q := range rightQueues() {
		l := numbers()
		for _, m := range q.Msgs {
			l = append(l, m.Number)
		}
		for _, number := range l {
			want, that, fault := aborted(q, number)
			aborts(t, q, number, want, that, fault)
		}
	}
	for _, limit := range []int{1, 4, 32} {
		for _, number := range numbers() {
			aborts(t, queue(limit), number, queue(limit), api.Message{}, api.ErrNone)
		}
	}
}

// orders are all orders of a list.
func orders(l []api.Message) [][]api.Message {
	if len(l) == 0 {
		return [][]api.Message{nil}
	}
	var all [][]api.Message
	for n, m := range l {
		for _, rest := range orders(slices.Delete(slices.Clone(l), n, n+1)) {
			all = append(all, append([]api.Message{m}, rest...))
		}
	}
	return all
}

// filled is a queue into which a list was put.
func filled(t *testing.T, limit int, l []api.Message) api.Queue {
	t.Helper()
	q, _ := txq.New(limit)
	for _, m := range l {
		more, e := txq.Put(q, m)
		if e != api.OK || len(more.Msgs) != len(q.Msgs)+1 {
			t.Fatalf("%v into %v: %v, %d", m, q, more, e)
		}
		q = more
	}
	return q
}

// drained is what is taken of a queue, one by one.
func drained(t *testing.T, q api.Queue) []api.Message {
	t.Helper()
	var l []api.Message
	for {
		first, is := txq.First(q)
		less, m, e := txq.Take(q)
		if m != first || is != (e == api.OK) {
			t.Fatalf("%v: First %v, Take %v, %d", q, first, m, e)
		}
		if e != api.OK {
			if e != api.ErrNone || len(q.Msgs) > 0 {
				t.Fatalf("%v: %d", q, e)
			}
			return l
		}
		l = append(l, m)
		q = less
	}
}

func TestM4AllOrders(t *testing.T) {
	for _, want := range [][]api.Message{
		{of(3, 1, 2), of(5, 1, 1), of(5, 1, 3), of(5, 2, 4), wide(5*two18, 0, 6), of(6, 0, 5)},
		{wide(0, 0, 9), wide(0, 0, 10), wide(0, 1, 8), of(1, 0, 7), of(1, 0, 65535)},
		{of(7, 1, 1), of(7, 1, 2), of(7, 1, 3), of(7, 1, 4)},
	} {
		for _, l := range orders(want) {
			if got := drained(t, filled(t, len(want), l)); !slices.Equal(got, want) {
				t.Fatalf("%v: %v", l, got)
			}
			// Each one by itself is aborted, all others come as they came.
			for n, m := range want {
				q, that, e := txq.Abort(filled(t, 32, l), m.Number)
				if that != m || e != api.OK {
					t.Fatalf("%v: %v, %d", l, that, e)
				}
				if got := drained(t, q); !slices.Equal(got, slices.Delete(slices.Clone(want), n, n+1)) {
					t.Fatalf("%v without %v: %v", l, m, got)
				}
			}
		}
	}
}

// chosen is some message, such that Ids, Senders and Numbers come often.
func chosen(chance *rand.Rand, number int) api.Message {
	m := of(chance.Intn(4), chance.Intn(3), number)
	if chance.Intn(2) == 0 {
		m.Id = api.Ident{Ext: true, N: chance.Intn(4)*two18 + chance.Intn(2)}
	}
	m.Inc, m.Seq, m.Data = 1+chance.Intn(3), 1+chance.Intn(9), strings.Repeat("x", chance.Intn(9))
	return m
}

// Some are put in whatever order, into a queue in which there may be no room, and some of them aborted: the others are taken, each once.
func TestM4SomeAreAborted(t *testing.T) {
	chance := rand.New(rand.NewSource(13))
	for range 300 {
		limit := 1 + chance.Intn(32)
		q, _ := txq.New(limit)
		var want []api.Message
		for _, k := range chance.Perm(40) {
			m := chosen(chance, k+1)
			more, e := txq.Put(q, m)
			if len(want) == limit {
				if e != api.ErrFull || !same(more, q) {
					t.Fatalf("%v into %v, that is full: %v, %d", m, q, more, e)
				}
				continue
			}
			if e != api.OK {
				t.Fatalf("%v into %v: %d", m, q, e)
			}
			q, want = more, append(want, m)
			if chance.Intn(3) == 0 {
				n := chance.Intn(len(want))
				less, that, e := txq.Abort(q, want[n].Number)
				if that != want[n] || e != api.OK {
					t.Fatalf("%v of %v: %v, %d", want[n], q, that, e)
				}
				q, want = less, slices.Delete(want, n, n+1)
			}
		}
		inOrder(want)
		if got := drained(t, q); !slices.Equal(got, want) {
			t.Fatalf("%v, not %v", got, want)
		}
	}
}

func inOrder(l []api.Message) {
	slices.SortFunc(l, func(a, b api.Message) int {
		if less(a, b) {
			return -1
		}
		return 1
	})
}

// Calls of all kinds, one behind the other: each answers by its words, and what comes of a right queue is right.
func TestM4AllCalls(t *testing.T) {
	chance := rand.New(rand.NewSource(31))
	for range 200 {
		limit := 1 + chance.Intn(8)
		q, _ := txq.New(limit)
		for range 60 {
			var got, want api.Queue
			var m, that api.Message
			var e, fault api.Errno
			switch number := chance.Intn(14); chance.Intn(4) {
			case 0:
				got, m, e = txq.Take(q)
				want, that, fault = taken(q)
			case 1:
				got, m, e = txq.Abort(q, number)
				want, that, fault = aborted(q, number)
			default:
				one := chosen(chance, number)
				got, e = txq.Put(q, one)
				want, fault = put(q, one)
			}
			if !same(got, want) || m != that || e != fault || !txq.Right(got) {
				t.Fatalf("%v: %v, %v, %d, not %v, %v, %d", q, got, m, e, want, that, fault)
			}
			q = got
		}
	}
}

// Of one Id and Sender the one of the lesser Number comes first, in whatever order they were put.
func TestM4OneIdAndSender(t *testing.T) {
	chance := rand.New(rand.NewSource(7))
	for range 100 {
		var l []api.Message
		for _, k := range chance.Perm(32) {
			l = append(l, with(of(5, 1, k*k+1), func(m *api.Message) { m.Inc, m.Seq = 1+chance.Intn(9), 1+chance.Intn(9) }))
		}
		for k, m := range drained(t, filled(t, 32, l)) {
			if m.Number != k*k+1 {
				t.Fatalf("%v: %v is the %dth", l, m, k)
			}
		}
	}
}

// Where there is no room nothing changes, and when one was taken there is room again.
func TestM4NoRoom(t *testing.T) {
	for _, limit := range []int{1, 2, 5, 31, 32} {
		q := filled(t, limit, some(limit))
		for _, m := range []api.Message{of(0, 0, 7), of(15, 0, 7), wide(two29-1, 0, 7)} {
			puts(t, q, m, q, api.ErrFull)
		}
		less, _, _ := txq.Take(q)
		for _, m := range []api.Message{of(0, 0, 7), of(15, 0, 7), wide(two29-1, 0, 7)} {
			want, _ := put(less, m)
			puts(t, less, m, want, api.OK)
		}
		last := q.Msgs[limit-1]
		less, _, _ = txq.Abort(q, last.Number)
		puts(t, less, last, q, api.OK)
	}
}

// R3: what is handed in stays as it was, what stands behind it too.
func TestWhatIsHandedInStays(t *testing.T) {
	for _, q := range queues() {
		all := append(slices.Clone(q.Msgs), of(2000, 9, 99), of(2001, 9, 98), of(2002, 9, 97))
		before := slices.Clone(all)
		q.Msgs = all[:len(q.Msgs)]
		txq.Right(q)
		for _, m := range messages() {
			txq.Put(q, m)
			txq.Abort(q, m.Number)
		}
		txq.First(q)
		txq.Take(q)
		if !slices.Equal(all, before) {
			t.Fatalf("%v: %v", before, all)
		}
	}
}

// fresh is a text in memory of its own, which no constant shares.
func fresh(s string) string { return string([]byte(s)) }

// shares tells whether bytes of a stand in b's memory.
func shares(a, b string) bool {
	if a == "" || b == "" {
		return false
	}
	first, second := uintptr(unsafe.Pointer(unsafe.StringData(a))), uintptr(unsafe.Pointer(unsafe.StringData(b)))
	return first < second+uintptr(len(b)) && second < first+uintptr(len(a))
}

// holding is a queue whose texts are in memory of their own, with spare room behind its Msgs.
func holding(limit, many int) api.Queue {
	l := some(many)
	for k := range l {
		l[k].Data = fresh("text")
	}
	spare := append(l, of(2000, 9, 99), of(2001, 9, 98))
	return queue(limit, spare[:many]...)
}

// apart holds that no text of some stands in another one's memory, or in that of some that were handed in.
func apart(t *testing.T, name string, l, handed []api.Message) {
	t.Helper()
	for k, m := range l {
		for _, other := range append(slices.Clone(handed), l[:k]...) {
			if shares(m.Data, other.Data) {
				t.Errorf("%s: %v shares memory", name, m)
			}
		}
	}
}

// answers are what calls tell of a queue, none with an error.
func answers(q api.Queue, m api.Message) map[string]func() (api.Queue, []api.Message) {
	l := map[string]func() (api.Queue, []api.Message){
		"Take": func() (api.Queue, []api.Message) {
			got, one, _ := txq.Take(q)
			return got, []api.Message{one}
		},
		"Abort": func() (api.Queue, []api.Message) {
			got, one, _ := txq.Abort(q, q.Msgs[len(q.Msgs)-1].Number)
			return got, []api.Message{one}
		},
		"First": func() (api.Queue, []api.Message) {
			one, _ := txq.First(q)
			return api.Queue{}, []api.Message{one}
		},
	}
	if len(q.Msgs) < q.Limit {
		l["Put"] = func() (api.Queue, []api.Message) {
			got, _ := txq.Put(q, m)
			return got, nil
		}
	}
	return l
}

// R3: what comes out is its owner's, spare room too.
func TestWhatComesOutIsNewMemory(t *testing.T) {
	for _, q := range []api.Queue{holding(32, 1), holding(32, 5), holding(5, 5), holding(32, 31), holding(32, 32)} {
		handed := q.Msgs[:cap(q.Msgs)]
		before := slices.Clone(handed)
		for _, id := range []int{0, 15, 2047} {
			m := with(of(id, 1, 7), func(m *api.Message) { m.Data = fresh("abcdefgh") })
			for name, call := range answers(q, m) {
				first, one := call()
				second, other := call()
				want := copied(second)
				apart(t, name, slices.Concat(first.Msgs, one, second.Msgs, other), append(slices.Clone(handed), m))
				for k := range first.Msgs[:cap(first.Msgs)] {
					first.Msgs[:cap(first.Msgs)][k] = api.Message{Data: "written"}
				}
				if third, _ := call(); !same(second, want) || !same(third, want) || !slices.Equal(handed, before) {
					t.Errorf("%s of %v: %v, %v", name, q, second, third)
				}
			}
		}
	}
	first, _ := txq.New(4)
	first.Msgs = append(first.Msgs, of(1, 1, 1))
	if second, _ := txq.New(4); !same(second, queue(4)) {
		t.Errorf("%v", second)
	}
}

// R1, R4: at all arguments calls end, and answer the same again; with an error the queue is as it was, and nothing else is told.
func TestRulesHoldAtAllArguments(t *testing.T) {
	for _, limit := range limits() {
		q, e := txq.New(limit)
		again, f := txq.New(limit)
		if !same(q, again) || e != f || e != api.OK && !same(q, api.Queue{}) {
			t.Errorf("%d: %v, %d, and then %v, %d", limit, q, e, again, f)
		}
	}
	for _, q := range append(queues(), queue(4, slices.Repeat(some(32), 1000)...)) {
		for range 2 {
			want, m, fault := taken(q)
			takes(t, q, want, m, fault)
			for _, number := range numbers() {
				want, m, fault := aborted(q, number)
				aborts(t, q, number, want, m, fault)
			}
		}
		if txq.Right(q) != right(q) || txq.Right(q) != txq.Right(q) {
			t.Errorf("%v: %t", q, txq.Right(q))
		}
	}
}
