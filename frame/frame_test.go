package frame_test

import (
	"math"
	"math/rand"
	"reflect"
	"slices"
	"strings"
	"testing"
	"unsafe"

	"omnibus/api"
	"omnibus/crc"
	"omnibus/entry"
	"omnibus/frag"
	"omnibus/frame"
)

// bare is an ordinary frame without parts, no two numbers of which are the same.
func bare() api.Frame {
	return api.Frame{
		Sender: 3, Role: api.Leader, Vote: 9,
		Round: 258, Inc: 772, Term: 1286, Heard: 1800, Last: 2314, LastTerm: 2828, Ack: 3342, Commit: 3856, Prev: 4370, PrevTerm: 65534,
	}
}

func piece() api.Piece { return api.Piece{Seq: 7, At: 1, Of: 3, Bytes: "cd"} }

// agreed is an ordinary entry: its members are 1 and 4.
func agreed() api.Entry {
	return api.Entry{
		Term: 258, Epoch: 772, Members: 1<<1 | 1<<4, Incs: []int{7, 300},
		Msgs: []api.Message{
			{Id: api.Ident{N: 3}, Sender: 4, Inc: 300, Seq: 3, Number: 4, Data: "ab"},
			{Id: api.Ident{Ext: true, N: 5 << 18}, Sender: 1, Inc: 7, Seq: 5, Number: 6},
		},
	}
}

func pieced() api.Frame {
	f := bare()
	f.Pieces = []api.Piece{piece()}
	return f
}

func entered() api.Frame {
	f := bare()
	f.Entries = []api.Entry{agreed()}
	return f
}

// whole has one of each part.
func whole() api.Frame {
	f := pieced()
	f.Entries = []api.Entry{agreed()}
	return f
}

// kinds are frames without parts, with one of each alone, and with both.
func kinds() []api.Frame { return []api.Frame{bare(), pieced(), entered(), whole()} }

// with is a frame, changed.
func with(f api.Frame, change func(f *api.Frame)) api.Frame {
	change(&f)
	return f
}

// field is a number of a frame: what it may be, where it stands in the bytes, in how many, and how much more is told there.
type field struct {
	name        string
	of          func(f *api.Frame) *int
	least, most int
	at, size    int
	more        int
}

func fields() []field {
	return []field{
		{"Sender", func(f *api.Frame) *int { return &f.Sender }, 0, 15, 1, 1, 0},
		{"Role", func(f *api.Frame) *int { return &f.Role }, 0, 2, 2, 1, 0},
		{"Vote", func(f *api.Frame) *int { return &f.Vote }, -1, 15, 3, 1, 1},
		{"Round", func(f *api.Frame) *int { return &f.Round }, 0, 65535, 4, 2, 0},
		{"Inc", func(f *api.Frame) *int { return &f.Inc }, 1, 65535, 6, 2, 0},
		{"Term", func(f *api.Frame) *int { return &f.Term }, 0, 65535, 8, 2, 0},
		{"Heard", func(f *api.Frame) *int { return &f.Heard }, 0, 65535, 10, 2, 0},
		{"Last", func(f *api.Frame) *int { return &f.Last }, 0, 65535, 12, 2, 0},
		{"LastTerm", func(f *api.Frame) *int { return &f.LastTerm }, 0, 65535, 14, 2, 0},
		{"Ack", func(f *api.Frame) *int { return &f.Ack }, 0, 65535, 16, 2, 0},
		{"Commit", func(f *api.Frame) *int { return &f.Commit }, 0, 65535, 18, 2, 0},
		{"Prev", func(f *api.Frame) *int { return &f.Prev }, 0, 65535, 20, 2, 0},
		{"PrevTerm", func(f *api.Frame) *int { return &f.PrevTerm }, 0, 65535, 22, 2, 0},
	}
}

// set is a frame, in which one field is n.
func (x field) set(f api.Frame, n int) api.Frame {
	*x.of(&f) = n
	return f
}

func (x field) may(n int) bool { return x.least <= n && n <= x.most }

// patch is bytes, in which those of a field are n's.
func (x field) patch(s string, n int) string {
	b := []byte(s)
	for k := range x.size {
		b[x.at+k] = byte(n >> (8 * (x.size - 1 - k)))
	}
	return string(b)
}

// numbers are ordinary ones, the edges of all fields, and what goes far beyond.
func numbers() []int {
	return []int{
		-2, -1, 0, 1, 2, 3, 14, 15, 16, 17, 255, 256, 257, 4660, 32767, 32768, 65534, 65535, 65536, 65537, 65536 + 258,
		-3, -16, -254, -255, -256, -65534, -65535, -65536, 1 << 31, 1 << 32, 1<<32 + 1, math.MaxInt, math.MaxInt - 1, math.MinInt, math.MinInt + 1,
	}
}

func wrongPieces() []api.Piece {
	return []api.Piece{
		{}, {At: 1, Of: 3, Bytes: "cd"}, {Seq: 65536, At: 1, Of: 3, Bytes: "cd"}, {Seq: 7, At: -1, Of: 3, Bytes: "cd"}, {Seq: 7, At: 3, Of: 3, Bytes: "cd"},
		{Seq: 7, At: 1, Of: 21, Bytes: "cd"}, {Seq: 7, Bytes: "cd"}, {Seq: 7, At: 1, Of: 3}, {Seq: 7, At: 1, Of: 3, Bytes: "0123456789abcdefg"},
	}
}

// wrongEntries part from the ordinary one in a field each.
func wrongEntries() []api.Entry {
	l := []api.Entry{{}}
	for _, change := range []func(e *api.Entry){
		func(e *api.Entry) { e.Term = 0 }, func(e *api.Entry) { e.Epoch = 65536 }, func(e *api.Entry) { e.Members = -1 },
		func(e *api.Entry) { e.Incs = e.Incs[:1] }, func(e *api.Entry) { e.Incs[1] = 0 }, func(e *api.Entry) { e.Msgs[0].Inc = 299 },
		func(e *api.Entry) { slices.Reverse(e.Msgs) }, func(e *api.Entry) { e.Msgs[1].Data = "123456789" },
	} {
		e := agreed()
		change(&e)
		l = append(l, e)
	}
	return l
}

func rightPieces() []api.Piece {
	return []api.Piece{
		piece(), {Seq: 1, Of: 1, Bytes: "a"}, {Seq: 65535, At: 19, Of: 20, Bytes: "0123456789abcdef"}, {Seq: 256, Of: 2, Bytes: "\x00\xff"},
	}
}

func rightEntries() []api.Entry {
	crowd := api.Entry{Term: 65535, Epoch: 1, Members: 65535}
	for n := range 16 {
		crowd.Incs = append(crowd.Incs, 4096*n+1)
		crowd.Msgs = append(crowd.Msgs, api.Message{Id: api.Ident{N: n}, Sender: n, Inc: 4096*n + 1, Seq: 1, Number: 1, Data: "12345678"})
	}
	return []api.Entry{agreed(), {Term: 1, Epoch: 1}, {Term: 1, Epoch: 2, Members: 5, Incs: []int{1, 3}}, crowd}
}

// frames are of all kinds: the edges of each field by itself, parts that are right, and what may not be.
func frames() []api.Frame {
	l := append(kinds(), api.Frame{}, api.Frame{Inc: 1}, api.Frame{Inc: 1, Vote: -1})
	for _, f := range kinds() {
		for _, x := range fields() {
			for _, n := range numbers() {
				l = append(l, x.set(f, n))
			}
		}
	}
	for _, p := range append(rightPieces(), wrongPieces()...) {
		l = append(l, with(bare(), func(f *api.Frame) { f.Pieces = []api.Piece{p} }), with(entered(), func(f *api.Frame) { f.Pieces = []api.Piece{p} }))
	}
	for _, e := range append(rightEntries(), wrongEntries()...) {
		l = append(l, with(bare(), func(f *api.Frame) { f.Entries = []api.Entry{e} }), with(pieced(), func(f *api.Frame) { f.Entries = []api.Entry{e} }))
	}
	for _, many := range []int{0, 1, 2, 3, 4, 16, 300} {
		for _, f := range kinds() {
			l = append(l,
				with(f, func(f *api.Frame) { f.Pieces = slices.Repeat([]api.Piece{piece()}, many) }),
				with(f, func(f *api.Frame) { f.Entries = slices.Repeat([]api.Entry{agreed()}, many) }))
		}
	}
	return l
}

func rightFrames() []api.Frame {
	return slices.DeleteFunc(frames(), func(f api.Frame) bool { return !right(f) })
}

// right is G1's, by its words.
func right(f api.Frame) bool {
	if f.Sender < 0 || f.Sender > 15 || f.Vote < -1 || f.Vote > 15 {
		return false
	}
	if f.Role != api.Follower && f.Role != api.Candidate && f.Role != api.Leader {
		return false
	}
	for _, n := range []int{f.Round, f.Inc, f.Term, f.Heard, f.Last, f.LastTerm, f.Ack, f.Commit, f.Prev, f.PrevTerm} {
		if n < 0 || n > 65535 {
			return false
		}
	}
	if f.Inc == 0 || len(f.Pieces) > 1 || len(f.Entries) > 1 {
		return false
	}
	return !slices.ContainsFunc(f.Pieces, func(p api.Piece) bool { return !frag.Right(p) }) &&
		!slices.ContainsFunc(f.Entries, func(e api.Entry) bool { return !entry.Right(e) })
}

// body is what G2 closes of a right frame, by its words.
func body(f api.Frame) string {
	b := []byte{197, byte(f.Sender), byte(f.Role), byte(f.Vote + 1)}
	for _, n := range []int{f.Round, f.Inc, f.Term, f.Heard, f.Last, f.LastTerm, f.Ack, f.Commit, f.Prev, f.PrevTerm} {
		b = append(b, byte(n/256), byte(n%256))
	}
	there, behind := byte(0), ""
	if len(f.Pieces) == 1 {
		s, _ := frag.Encode(f.Pieces[0])
		there, behind = 1, s
	}
	if len(f.Entries) == 1 {
		s, _ := entry.Encode(f.Entries[0])
		there, behind = there+2, behind+s
	}
	return string(append(b, there)) + behind
}

// decoded is G3's, by its words.
func decoded(s string) (api.Frame, api.Errno) {
	if len(s) < 2 || crc.Close(s[:len(s)-2]) != s {
		return api.Frame{}, api.ErrCrc
	}
	s = s[:len(s)-2]
	if len(s) < 25 {
		return api.Frame{}, api.ErrShort
	}
	if s[0] != 197 || s[24] > 3 {
		return api.Frame{}, api.ErrForm
	}
	two := func(at int) int { return int(s[at])*256 + int(s[at+1]) }
	f := api.Frame{
		Sender: int(s[1]), Role: int(s[2]), Vote: int(s[3]) - 1, Round: two(4), Inc: two(6), Term: two(8), Heard: two(10),
		Last: two(12), LastTerm: two(14), Ack: two(16), Commit: two(18), Prev: two(20), PrevTerm: two(22),
	}
	left := s[25:]
	if s[24] == 1 || s[24] == 3 {
		p, rest, e := frag.Decode(left)
		if e != api.OK {
			return api.Frame{}, e
		}
		f.Pieces, left = []api.Piece{p}, rest
	}
	if s[24] == 2 || s[24] == 3 {
		a, rest, e := entry.Decode(left)
		if e != api.OK {
			return api.Frame{}, e
		}
		f.Entries, left = []api.Entry{a}, rest
	}
	if left != "" || !right(f) {
		return api.Frame{}, api.ErrForm
	}
	return f, api.OK
}

func sameEntry(a, b api.Entry) bool {
	return a.Term == b.Term && a.Epoch == b.Epoch && a.Members == b.Members && slices.Equal(a.Incs, b.Incs) && slices.Equal(a.Msgs, b.Msgs)
}

func same(a, b api.Frame) bool {
	for _, x := range fields() {
		if *x.of(&a) != *x.of(&b) {
			return false
		}
	}
	return slices.Equal(a.Pieces, b.Pieces) && slices.EqualFunc(a.Entries, b.Entries, sameEntry)
}

// shares tells whether bytes of a stand in b's memory.
func shares(a, b string) bool {
	if a == "" || b == "" {
		return false
	}
	first, second := uintptr(unsafe.Pointer(unsafe.StringData(a))), uintptr(unsafe.Pointer(unsafe.StringData(b)))
	return first < second+uintptr(len(b)) && second < first+uintptr(len(a))
}

// fresh is the same text in memory of its own.
func fresh(s string) string { return string([]byte(s)) }

func rights(t *testing.T, name string, f api.Frame, want bool) {
	t.Helper()
	if got := frame.Right(f); got != want {
		t.Errorf("%s: %v: %t", name, f, got)
	}
}

func TestG1RightByNumbers(t *testing.T) {
	for _, f := range kinds() {
		rights(t, "ordinary", f, true)
		for _, x := range fields() {
			for _, n := range append(numbers(), x.least-1, x.least, x.most, x.most+1) {
				rights(t, x.name, x.set(f, n), x.may(n))
			}
		}
	}
	rights(t, "nothing", api.Frame{}, false)
	rights(t, "nothing, but that it was started", api.Frame{Inc: 1}, true)
}

// What the edges are, without the table of fields.
func TestG1RightAtTheEdges(t *testing.T) {
	for sender, want := range map[int]bool{-1: false, 0: true, 15: true, 16: false} {
		rights(t, "Sender", with(bare(), func(f *api.Frame) { f.Sender = sender }), want)
	}
	for role, want := range map[int]bool{api.Follower - 1: false, api.Follower: true, api.Candidate: true, api.Leader: true, api.Leader + 1: false} {
		rights(t, "Role", with(bare(), func(f *api.Frame) { f.Role = role }), want)
	}
	for vote, want := range map[int]bool{-2: false, -1: true, 0: true, 15: true, 16: false} {
		rights(t, "Vote", with(bare(), func(f *api.Frame) { f.Vote = vote }), want)
	}
	for n, want := range map[int]bool{-1: false, 0: true, 1: true, 65535: true, 65536: false} {
		rights(t, "Round", with(bare(), func(f *api.Frame) { f.Round = n }), want)
		rights(t, "Inc", with(bare(), func(f *api.Frame) { f.Inc = n }), want && n != 0)
		rights(t, "Term", with(bare(), func(f *api.Frame) { f.Term = n }), want)
		rights(t, "Heard", with(bare(), func(f *api.Frame) { f.Heard = n }), want)
		rights(t, "Last", with(bare(), func(f *api.Frame) { f.Last = n }), want)
		rights(t, "LastTerm", with(bare(), func(f *api.Frame) { f.LastTerm = n }), want)
		rights(t, "Ack", with(bare(), func(f *api.Frame) { f.Ack = n }), want)
		rights(t, "Commit", with(bare(), func(f *api.Frame) { f.Commit = n }), want)
		rights(t, "Prev", with(bare(), func(f *api.Frame) { f.Prev = n }), want)
		rights(t, "PrevTerm", with(bare(), func(f *api.Frame) { f.PrevTerm = n }), want)
	}
}

func TestG1RightByParts(t *testing.T) {
	for _, f := range kinds() {
		for _, many := range []int{0, 1, 2, 3, 300} {
			rights(t, "many pieces", with(f, func(f *api.Frame) { f.Pieces = slices.Repeat([]api.Piece{piece()}, many) }), many <= 1)
			rights(t, "many entries", with(f, func(f *api.Frame) { f.Entries = slices.Repeat([]api.Entry{agreed()}, many) }), many <= 1)
		}
		for _, p := range rightPieces() {
			rights(t, "right piece", with(f, func(f *api.Frame) { f.Pieces = []api.Piece{p} }), true)
			rights(t, "right piece twice", with(f, func(f *api.Frame) { f.Pieces = []api.Piece{p, p} }), false)
		}
		for _, p := range wrongPieces() {
			rights(t, "wrong piece", with(f, func(f *api.Frame) { f.Pieces = []api.Piece{p} }), false)
			rights(t, "wrong piece behind", with(f, func(f *api.Frame) { f.Pieces = []api.Piece{piece(), p} }), false)
		}
		for _, e := range rightEntries() {
			rights(t, "right entry", with(f, func(f *api.Frame) { f.Entries = []api.Entry{e} }), true)
			rights(t, "right entry twice", with(f, func(f *api.Frame) { f.Entries = []api.Entry{e, e} }), false)
		}
		for _, e := range wrongEntries() {
			rights(t, "wrong entry", with(f, func(f *api.Frame) { f.Entries = []api.Entry{e} }), false)
			rights(t, "wrong entry behind", with(f, func(f *api.Frame) { f.Entries = []api.Entry{agreed(), e} }), false)
		}
	}
}

func TestG1RightOfAllFrames(t *testing.T) {
	is := 0
	for _, f := range frames() {
		rights(t, "by its words", f, right(f))
		if right(f) {
			is++
		}
	}
	if is < 500 {
		t.Errorf("%d are right", is)
	}
}

func encodes(t *testing.T, f api.Frame, want string, fault api.Errno) {
	t.Helper()
	if s, e := frame.Encode(f); s != want || e != fault {
		t.Errorf("%v: %x, %d, not %x, %d", f, s, e, want, fault)
	}
}

func TestG2Encode(t *testing.T) {
	head := "\xc5\x03\x02\x0a\x01\x02\x03\x04\x05\x06\x07\x08\x09\x0a\x0b\x0c\x0d\x0e\x0f\x10\x11\x12\xff\xfe"
	one := "\x00\x07\x01\x03\x02cd"
	two := "\x01\x02\x03\x04\x00\x12\x00\x07\x01\x2c\x02" +
		"\x00\x00\x00\x03\x04\x01\x2c\x00\x03\x00\x04\x02ab" +
		"\x80\x14\x00\x00\x01\x00\x07\x00\x05\x00\x06\x00"
	encodes(t, bare(), crc.Close(head+"\x00"), api.OK)
	encodes(t, pieced(), crc.Close(head+"\x01"+one), api.OK)
	encodes(t, entered(), crc.Close(head+"\x02"+two), api.OK)
	encodes(t, whole(), crc.Close(head+"\x03"+one+two), api.OK)
	// Their sums are written out, so that these do not hang on package crc; each has the 27 bytes of the chapter's example.
	encodes(t, bare(), head+"\x00"+"\xc7\xf9", api.OK)
	encodes(t, api.Frame{Inc: 1, Vote: -1}, "\xc5\x00\x00\x00\x00\x00\x00\x01"+strings.Repeat("\x00", 17)+"\x84\x85", api.OK)
}

func TestG2EncodeByFields(t *testing.T) {
	for _, f := range kinds() {
		s := body(f)
		for _, x := range fields() {
			for _, n := range append(numbers(), x.least-1, x.least, x.most, x.most+1) {
				if x.may(n) {
					encodes(t, x.set(f, n), crc.Close(x.patch(s, n+x.more)), api.OK)
				} else {
					encodes(t, x.set(f, n), "", api.ErrArg)
				}
			}
		}
	}
}

func TestG2EncodeOfAllFrames(t *testing.T) {
	encodes(t, api.Frame{}, "", api.ErrArg)
	for _, f := range frames() {
		if right(f) {
			encodes(t, f, crc.Close(body(f)), api.OK)
		} else {
			encodes(t, f, "", api.ErrArg)
		}
	}
}

func decodes(t *testing.T, s string, want api.Frame, fault api.Errno) {
	t.Helper()
	if f, e := frame.Decode(s); !same(f, want) || e != fault {
		t.Errorf("%x: %v, %d, not %v, %d", s, f, e, want, fault)
	}
}

func refused(t *testing.T, s string, fault api.Errno) {
	t.Helper()
	decodes(t, s, api.Frame{}, fault)
}

func TestG3DecodeOfWhatDoesNotHold(t *testing.T) {
	refused(t, "", api.ErrCrc)
	for b := range 256 {
		refused(t, string([]byte{byte(b)}), api.ErrCrc)
	}
	// Two bytes hold, if they are the sum of nothing.
	refused(t, "\xff\xff", api.ErrShort)
	refused(t, "\xff\xfe", api.ErrCrc)
	refused(t, "\x00\x00", api.ErrCrc)
	for _, f := range kinds() {
		s := crc.Close(body(f))
		refused(t, body(f), api.ErrCrc)
		refused(t, s+"\x01", api.ErrCrc)
		refused(t, "\x00"+s, api.ErrCrc)
		// Behind what was closed the sum is 0, and so is that of noughts behind it.
		refused(t, s+"\x00", api.ErrForm)
		refused(t, crc.Close(s), api.ErrForm)
		for cut := range len(s) {
			refused(t, s[:cut], api.ErrCrc)
		}
		// The sum's bytes, the other way round.
		refused(t, s[:len(s)-2]+s[len(s)-1:]+s[len(s)-2:len(s)-1], api.ErrCrc)
	}
}

func TestG3DecodeCutAnywhere(t *testing.T) {
	for _, f := range rightFrames() {
		s := body(f)
		for cut := range len(s) {
			refused(t, crc.Close(s[:cut]), api.ErrShort)
		}
		decodes(t, crc.Close(s), f, api.OK)
	}
	for many := range 25 {
		for _, b := range []string{"\x00", "\x01", "\xc5", "\xff"} {
			refused(t, crc.Close(strings.Repeat(b, many)), api.ErrShort)
		}
	}
}

func TestG3DecodeOfTheFirstByte(t *testing.T) {
	for _, f := range kinds() {
		s := body(f)
		for b := range 256 {
			closed := crc.Close(string([]byte{byte(b)}) + s[1:])
			if b == 197 {
				decodes(t, closed, f, api.OK)
			} else {
				refused(t, closed, api.ErrForm)
			}
		}
	}
}

// The 25th byte tells which parts there are, and above 3 nothing.
func TestG3DecodeOfWhichPartsThereAre(t *testing.T) {
	head := body(bare())[:24]
	one, _ := frag.Encode(piece())
	two, _ := entry.Encode(agreed())
	for b := range 256 {
		told := head + string([]byte{byte(b)})
		for _, behind := range []string{"", one, two, one + two, two + one, one + one, two + two, "x"} {
			wantFrame, want := decoded(crc.Close(told + behind))
			if b > 3 && want != api.ErrForm {
				t.Fatalf("%d: %d is asked", b, want)
			}
			decodes(t, crc.Close(told+behind), wantFrame, want)
		}
	}
	decodes(t, crc.Close(head+"\x00"), bare(), api.OK)
	decodes(t, crc.Close(head+"\x01"+one), pieced(), api.OK)
	decodes(t, crc.Close(head+"\x02"+two), entered(), api.OK)
	decodes(t, crc.Close(head+"\x03"+one+two), whole(), api.OK)
	refused(t, crc.Close(head+"\x00"+one), api.ErrForm)
	refused(t, crc.Close(head+"\x01"), api.ErrShort)
	refused(t, crc.Close(head+"\x02"), api.ErrShort)
	refused(t, crc.Close(head+"\x03"+one), api.ErrShort)
	refused(t, crc.Close(head+"\x03"+two), api.ErrForm)
}

// Each error of chapter 5's Decode, with nothing behind it, and with an entry.
func TestG3DecodeOfPiecesThatAreNone(t *testing.T) {
	head := body(bare())[:24]
	two, _ := entry.Encode(agreed())
	for name, x := range map[string]struct {
		bytes string
		fault api.Errno
	}{
		"nothing":           {"", api.ErrShort},
		"cut head":          {"\x00\x07\x01\x03", api.ErrShort},
		"too many Bytes":    {"\x00\x07\x01\x03\x11", api.ErrForm},
		"17 Bytes":          {"\x00\x07\x01\x03\x110123456789abcdefg", api.ErrForm},
		"a byte is missing": {"\x00\x07\x01\x03\x02c", api.ErrShort},
		"all are missing":   {"\x00\x07\x01\x03\x10", api.ErrShort},
		"no Bytes":          {"\x00\x07\x01\x03\x00", api.ErrForm},
		"no Seq":            {"\x00\x00\x01\x03\x02cd", api.ErrForm},
		"At too high":       {"\x00\x07\x03\x03\x02cd", api.ErrForm},
		"Of too high":       {"\x00\x07\x01\x15\x02cd", api.ErrForm},
		"no Of":             {"\x00\x07\x00\x00\x02cd", api.ErrForm},
	} {
		if _, _, e := frag.Decode(x.bytes); e != x.fault {
			t.Fatalf("%s: %d is chapter 5's", name, e)
		}
		refused(t, crc.Close(head+"\x01"+x.bytes), x.fault)
		refused(t, crc.Close(head+"\x03"+x.bytes), x.fault)
		if _, _, e := frag.Decode(x.bytes + two); e == api.ErrForm {
			refused(t, crc.Close(head+"\x03"+x.bytes+two), api.ErrForm)
			refused(t, crc.Close(head+"\x03"+x.bytes+two[:5]), api.ErrForm)
		}
	}
}

// Each error of chapter 6's Decode, of an entry alone, and behind a piece.
func TestG3DecodeOfEntriesThatAreNone(t *testing.T) {
	head := body(bare())[:24]
	one, _ := frag.Encode(piece())
	s, _ := entry.Encode(agreed())
	for name, x := range map[string]struct {
		bytes string
		fault api.Errno
	}{
		"nothing":             {"", api.ErrShort},
		"cut head":            {s[:5], api.ErrShort},
		"cut Incs":            {s[:9], api.ErrShort},
		"not how many":        {s[:10], api.ErrShort},
		"too many messages":   {s[:10] + "\x11", api.ErrForm},
		"a message too few":   {s[:10] + "\x03" + s[11:], api.ErrShort},
		"cut Data":            {s[:24], api.ErrShort},
		"too much Data":       {s[:22] + "\x09123456789", api.ErrForm},
		"no Term":             {"\x00\x00" + s[2:], api.ErrForm},
		"no Epoch":            {s[:2] + "\x00\x00" + s[4:], api.ErrForm},
		"another start":       {s[:8] + "\x01\x2d" + s[10:], api.ErrForm},
		"no Inc":              {"\x00\x01\x00\x01\x00\x01\x00\x00\x00", api.ErrForm},
		"no Inc, and cut":     {"\x00\x01\x00\x01\x00\x01\x00\x00", api.ErrShort},
		"no Id of a message":  {s[:11] + "\x00\x00\x08\x00" + s[15:], api.ErrForm},
		"messages the others": {s[:11] + s[25:] + s[11:25], api.ErrForm},
	} {
		if _, _, e := entry.Decode(x.bytes); e != x.fault {
			t.Fatalf("%s: %d is chapter 6's", name, e)
		}
		refused(t, crc.Close(head+"\x02"+x.bytes), x.fault)
		refused(t, crc.Close(head+"\x03"+one+x.bytes), x.fault)
	}
}

func TestG3DecodeOfWhatIsLeftBehind(t *testing.T) {
	one, _ := frag.Encode(piece())
	two, _ := entry.Encode(agreed())
	for _, f := range kinds() {
		for _, left := range []string{"\x00", "x", "\xc5", one, two, strings.Repeat("more", 99), crc.Close(body(f))} {
			refused(t, crc.Close(body(f)+left), api.ErrForm)
		}
	}
}

// Each field by itself, at all that its bytes can tell or at the edges.
func TestG3DecodeOfWhatIsNotRight(t *testing.T) {
	for _, f := range kinds() {
		s := body(f)
		for _, x := range fields() {
			for n := range 1 << (8 * x.size) {
				if x.size == 2 && n > 300 && n < 65500 && n%97 != 0 {
					continue
				}
				closed := crc.Close(x.patch(s, n))
				if x.may(n - x.more) {
					decodes(t, closed, x.set(f, n-x.more), api.OK)
				} else {
					refused(t, closed, api.ErrForm)
				}
			}
		}
	}
	s := body(bare())
	refused(t, crc.Close(s[:1]+"\x10"+s[2:]), api.ErrForm)
	refused(t, crc.Close(s[:2]+"\x03"+s[3:]), api.ErrForm)
	refused(t, crc.Close(s[:3]+"\x11"+s[4:]), api.ErrForm)
	refused(t, crc.Close(s[:6]+"\x00\x00"+s[8:]), api.ErrForm)
}

// The errors' order: the sum is asked first, then bytes are gone over from the left, and whether all that is right is asked in the end.
func TestG3DecodeNamesTheFirstError(t *testing.T) {
	s := body(bare())
	one, _ := frag.Encode(piece())
	two, _ := entry.Encode(agreed())
	// Of a Sender that is none, and of no start.
	wrong := s[:1] + "\x10" + s[2:6] + "\x00\x00" + s[8:24]
	refused(t, "\xc4"+s[1:20], api.ErrCrc)
	refused(t, "\xc4"+s[1:], api.ErrCrc)
	refused(t, wrong+"\x04", api.ErrCrc)
	refused(t, crc.Close("\xc4"), api.ErrShort)
	refused(t, crc.Close("\xc4"+s[1:24]), api.ErrShort)
	refused(t, crc.Close(wrong), api.ErrShort)
	for _, told := range []string{"\x04", "\x05", "\x06", "\x07", "\xff"} {
		refused(t, crc.Close(s[:24]+told), api.ErrForm)
		refused(t, crc.Close("\xc4"+s[1:24]+told), api.ErrForm)
	}
	for _, told := range []string{"\x01", "\x02", "\x03"} {
		refused(t, crc.Close("\xc4"+s[1:24]+told), api.ErrForm)
		refused(t, crc.Close(wrong+told), api.ErrShort)
	}
	refused(t, crc.Close(wrong+"\x01"+one[:6]), api.ErrShort)
	refused(t, crc.Close(wrong+"\x02"+two[:10]), api.ErrShort)
	refused(t, crc.Close(wrong+"\x03"+one), api.ErrShort)
	refused(t, crc.Close(wrong+"\x03"+one+two[:len(two)-1]), api.ErrShort)
	refused(t, crc.Close(wrong+"\x03"+one+two), api.ErrForm)
	// The piece stands ahead of the entry, and its error is told ahead.
	none := "\x00\x00" + one[2:]
	refused(t, crc.Close(s[:24]+"\x03"+none), api.ErrForm)
	refused(t, crc.Close(s[:24]+"\x03"+none+two[:10]), api.ErrForm)
	refused(t, crc.Close(s[:24]+"\x03"+one+two[:10]+"\x11"), api.ErrForm)
	refused(t, crc.Close(s[:24]+"\x03"+one[:4]+"\x10"+"\x00\x00"), api.ErrShort)
}

// decodesByWords tells what is asked for by G3's words.
func decodesByWords(t *testing.T, s string) bool {
	t.Helper()
	f, e := decoded(s)
	decodes(t, s, f, e)
	return e == api.OK
}

// Any byte of a frame's is set to any other one, and closed anew: just what is right comes out.
func TestG3DecodeOfManyTexts(t *testing.T) {
	for _, f := range kinds() {
		s := body(f)
		for at := range s {
			for b := range 256 {
				decodesByWords(t, crc.Close(s[:at]+string([]byte{byte(b)})+s[at+1:]))
			}
		}
	}
	chance := rand.New(rand.NewSource(21))
	for range 20000 {
		b := make([]byte, chance.Intn(80))
		for k := range b {
			b[k] = byte(chance.Intn(256)) & byte(chance.Intn(256)) & byte(chance.Intn(256))
		}
		decodesByWords(t, string(b))
		decodesByWords(t, crc.Close(string(b)))
		if len(b) > 0 {
			b[0] = 197
			decodesByWords(t, crc.Close(string(b)))
		}
	}
}

// drawn is a frame that is right, by chance.
func drawn(chance *rand.Rand) api.Frame {
	f := bare()
	for _, x := range fields() {
		*x.of(&f) = x.least + chance.Intn(x.most-x.least+1)
	}
	if chance.Intn(2) > 0 {
		bytes := make([]byte, 1+chance.Intn(16))
		chance.Read(bytes)
		of := 1 + chance.Intn(20)
		f.Pieces = []api.Piece{{Seq: 1 + chance.Intn(65535), At: chance.Intn(of), Of: of, Bytes: string(bytes)}}
	}
	if chance.Intn(2) > 0 {
		e := api.Entry{Term: 1 + chance.Intn(65535), Epoch: 1 + chance.Intn(65535), Members: chance.Intn(65536) & chance.Intn(65536)}
		for n := range 16 {
			if e.Members>>n&1 == 0 {
				continue
			}
			inc := 1 + chance.Intn(65535)
			e.Incs = append(e.Incs, inc)
			if chance.Intn(2) > 0 {
				e.Msgs = append(e.Msgs, api.Message{Id: api.Ident{N: 9 * n}, Sender: n, Inc: inc, Seq: 1 + chance.Intn(65535), Number: 1, Data: "12345678"[:n/2]})
			}
		}
		f.Entries = []api.Entry{e}
	}
	return f
}

func TestG4DecodeUndoesEncode(t *testing.T) {
	undone := func(f api.Frame) {
		s, e := frame.Encode(f)
		if e != api.OK {
			t.Errorf("%v: %d", f, e)
		}
		decodes(t, s, f, api.OK)
	}
	for _, f := range rightFrames() {
		undone(f)
	}
	chance := rand.New(rand.NewSource(22))
	for range 5000 {
		undone(drawn(chance))
	}
}

func TestG4EncodeOfWhatWasDecodedIsWhatItWas(t *testing.T) {
	chance := rand.New(rand.NewSource(23))
	taken := 0
	for range 30000 {
		b := []byte(body(drawn(chance)))
		at := chance.Intn(min(len(b), 60))
		b[at] = byte(chance.Intn(256))
		s := crc.Close(string(b))
		f, e := frame.Decode(s)
		if e != api.OK {
			continue
		}
		taken++
		if back, e := frame.Encode(f); back != s || e != api.OK {
			t.Errorf("%x: %x, %d", s, back, e)
		}
	}
	if taken < 5000 {
		t.Errorf("%d were taken", taken)
	}
}

// masks are of one bit, of a row of bits, of two bits apart, and others.
func masks() []int {
	l := []int{0, 0xa5a5, 0x5a5a, 0x1021, 0x8810, 0xffff, -1, 65536 + 1, 65536}
	for low := range 16 {
		for high := low; high < 16; high++ {
			l = append(l, 1<<low|1<<high, 1<<(high+1)-1<<low)
		}
	}
	return l
}

func TestG4OfABurstNothingIsTold(t *testing.T) {
	turned := 0
	spoilt := func(s string, f api.Frame, at, mask int) {
		burst := crc.Burst(s, at, mask)
		if burst == s {
			decodes(t, burst, f, api.OK)
			return
		}
		turned++
		refused(t, burst, api.ErrCrc)
	}
	for _, f := range kinds() {
		s, _ := frame.Encode(f)
		for at := -1; at <= 8*len(s); at++ {
			for _, mask := range masks() {
				spoilt(s, f, at, mask)
			}
		}
	}
	// All bursts that begin with one of some bits.
	s, _ := frame.Encode(bare())
	for at := 0; at < 8*len(s); at += 23 {
		for mask := 1 << 15; mask < 1<<16; mask++ {
			spoilt(s, bare(), at, mask)
		}
	}
	chance := rand.New(rand.NewSource(24))
	for range 20000 {
		f := drawn(chance)
		s, _ := frame.Encode(f)
		spoilt(s, f, chance.Intn(8*len(s)), chance.Intn(1<<16))
	}
	if turned < 300000 {
		t.Errorf("%d were spoilt", turned)
	}
}

// copied is a frame in memory of its own, its lists as well.
func copied(f api.Frame) api.Frame {
	f.Pieces, f.Entries = slices.Clone(f.Pieces), slices.Clone(f.Entries)
	for k, e := range f.Entries {
		f.Entries[k].Incs, f.Entries[k].Msgs = slices.Clone(e.Incs), slices.Clone(e.Msgs)
	}
	return f
}

// R3: what is handed in stays as it was, what stands behind it too.
func TestWhatIsHandedInStays(t *testing.T) {
	behind := api.Piece{Seq: 99, Of: 1, Bytes: "behind"}
	for _, f := range frames() {
		f = copied(f)
		pieces, entries := append(f.Pieces, behind), append(f.Entries, api.Entry{Term: 99, Epoch: 98, Incs: []int{97}})
		f.Pieces, f.Entries = pieces[:len(f.Pieces)], entries[:len(f.Entries)]
		was := copied(api.Frame{Pieces: pieces, Entries: entries})
		frame.Right(f)
		frame.Encode(f)
		if !same(api.Frame{Pieces: pieces, Entries: entries}, was) {
			t.Fatalf("%v: %v, %v", f, pieces, entries)
		}
	}
	for _, f := range rightFrames() {
		s := fresh(crc.Close(body(f)))
		kept := strings.Clone(s)
		frame.Decode(s)
		if s != kept {
			t.Errorf("%v: %x", f, s)
		}
	}
}

// spoil writes into all lists of a frame, spare room too.
func spoil(f api.Frame) {
	for k := range f.Entries {
		e := f.Entries[k]
		for i := range e.Incs[:cap(e.Incs)] {
			e.Incs[:cap(e.Incs)][i] = -1
		}
		for i := range e.Msgs[:cap(e.Msgs)] {
			e.Msgs[:cap(e.Msgs)][i] = api.Message{Data: "x"}
		}
	}
	for k := range f.Pieces[:cap(f.Pieces)] {
		f.Pieces[:cap(f.Pieces)][k] = api.Piece{Bytes: "x"}
	}
	for k := range f.Entries[:cap(f.Entries)] {
		f.Entries[:cap(f.Entries)][k] = api.Entry{Term: -1}
	}
}

// texts are those that stand in a frame.
func texts(f api.Frame) []string {
	var l []string
	for _, p := range f.Pieces {
		l = append(l, p.Bytes)
	}
	for _, e := range f.Entries {
		for _, m := range e.Msgs {
			l = append(l, m.Data)
		}
	}
	return l
}

// R3: what comes out is its owner's, spare room too.
func TestWhatComesOutIsNewMemory(t *testing.T) {
	for _, want := range append(kinds(), with(whole(), func(f *api.Frame) { f.Entries = []api.Entry{rightEntries()[3]} })) {
		s := fresh(crc.Close(body(want)))
		first, _ := frame.Decode(s)
		second, _ := frame.Decode(s)
		if !same(first, want) || !same(second, want) {
			t.Fatalf("%v, %v", first, second)
		}
		all := append(texts(first), texts(second)...)
		for k, a := range all {
			if shares(a, s) || slices.ContainsFunc(all[:k], func(b string) bool { return shares(a, b) }) {
				t.Errorf("%v: memory that is shared", first)
			}
		}
		spoil(first)
		if !same(second, want) {
			t.Errorf("%v is changed", second)
		}
		decodes(t, s, want, api.OK)
	}
	f := with(pieced(), func(f *api.Frame) { f.Pieces[0].Bytes = fresh("0123456789abcdef") })
	if s, _ := frame.Encode(f); shares(s, f.Pieces[0].Bytes) {
		t.Errorf("%q: what was handed in", s)
	}
}

// R1, R4: at all arguments calls end, and answer the same again.
func TestRulesHoldAtAllArguments(t *testing.T) {
	for _, f := range frames() {
		s, e := frame.Encode(f)
		again, g := frame.Encode(f)
		if s != again || e != g || frame.Right(f) != (e == api.OK) || frame.Right(f) != frame.Right(f) {
			t.Errorf("%v: %x, %d, and then %x, %d", f, s, e, again, g)
		}
	}
	for _, s := range []string{
		"", "\x00", strings.Repeat("\x00", 1000), strings.Repeat("\xc5", 1000), strings.Repeat("\xff", 1000), strings.Repeat("größe", 99),
		"\xc5" + strings.Repeat("\x01", 1000), "\xc5" + strings.Repeat("\x02", 99999), body(whole()),
	} {
		for _, s := range []string{s, crc.Close(s)} {
			f, e := frame.Decode(s)
			again, g := frame.Decode(s)
			if !reflect.DeepEqual(f, again) || e != g || e != api.OK && !same(f, api.Frame{}) {
				t.Errorf("%q: %v, %d, and then %v, %d", s, f, e, again, g)
			}
			if decodesByWords(t, s) != (e == api.OK) {
				t.Errorf("%q: %d", s, e)
			}
		}
	}
}
