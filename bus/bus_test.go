package bus_test

import (
	"math"
	"math/rand"
	"reflect"
	"slices"
	"strings"
	"testing"
	"unsafe"

	"omnibus/api"
	"omnibus/bus"
	"omnibus/crc"
	"omnibus/frame"
)

func passes() api.Fault { return api.Fault{Kind: api.Passes} }

func loses() api.Fault { return api.Fault{Kind: api.Loses} }

func spoils(at, mask int) api.Fault { return api.Fault{Kind: api.Spoils, At: at, Mask: mask} }

// bare is an ordinary frame without parts.
func bare() api.Frame {
	return api.Frame{
		Sender: 3, Role: api.Leader, Vote: 9,
		Round: 258, Inc: 772, Term: 1286, Heard: 1800, Last: 2314, LastTerm: 2828, Ack: 3342, Commit: 3856, Prev: 4370, PrevTerm: 65534,
	}
}

func pieced() api.Frame {
	f := bare()
	f.Pieces = []api.Piece{{Seq: 7, At: 1, Of: 3, Bytes: "cd"}}
	return f
}

func entered() api.Frame {
	f := bare()
	f.Entries = []api.Entry{{
		Term: 258, Epoch: 772, Members: 1<<1 | 1<<4, Incs: []int{7, 300},
		Msgs: []api.Message{
			{Id: api.Ident{N: 3}, Sender: 4, Inc: 300, Seq: 3, Number: 4, Data: "ab"},
			{Id: api.Ident{Ext: true, N: 5 << 18}, Sender: 1, Inc: 7, Seq: 5, Number: 6},
		},
	}}
	return f
}

// whole has one of each part.
func whole() api.Frame {
	f := entered()
	f.Pieces = pieced().Pieces
	return f
}

func frames() []api.Frame {
	return []api.Frame{bare(), pieced(), entered(), whole(), {Inc: 1}, {Sender: 15, Vote: -1, Inc: 65535}}
}

func bytesOf(t *testing.T, f api.Frame) string {
	t.Helper()
	s, e := frame.Encode(f)
	if e != api.OK {
		t.Fatalf("%v: %d", f, e)
	}
	return s
}

// texts are no bytes, one, several, whole frames, what holds but is no frame, and more bits than an At can tell.
func texts(t *testing.T) []string {
	l := []string{
		"", "\x00", "\xff", "a", "ab", "text", "größe", crc.Close(""), crc.Close("text"), crc.Close(strings.Repeat("\xc5", 30)),
		strings.Repeat("\xa5", 8191), strings.Repeat("slot", 2048), strings.Repeat("\x00", 9000),
	}
	for _, f := range frames() {
		s := bytesOf(t, f)
		l = append(l, s, s[1:], s[:len(s)-1], s+"\x00", crc.Burst(s, 40, 0x9000))
	}
	return l
}

// numbers are the edges of At and Mask, ordinary ones, and what goes far beyond.
func numbers() []int {
	return []int{
		0, 1, 65534, 65535, -1, 65536, 2, 7, 8, 15, 16, 255, 256, 4660, 32767, 32768,
		-2, -65535, -65536, 65537, 131071, 1 << 31, 1 << 32, 1<<32 + 1, math.MaxInt, math.MaxInt - 1, math.MinInt, math.MinInt + 1,
	}
}

func kinds() []int {
	return []int{api.Passes, api.Loses, api.Spoils, -1, 3, 4, -2, 256, 257, 258, 1 << 32, 1<<32 + 2, math.MaxInt, math.MinInt, math.MinInt + 1}
}

// faults are of all kinds, with all numbers, those that may not be too.
func faults() []api.Fault {
	var l []api.Fault
	for _, kind := range kinds() {
		for _, at := range numbers() {
			for _, mask := range numbers() {
				l = append(l, api.Fault{Kind: kind, At: at, Mask: mask})
			}
		}
	}
	return l
}

// may is I1's, by its words.
func may(f api.Fault) bool {
	if f.Kind != 0 && f.Kind != 1 && f.Kind != 2 {
		return false
	}
	return !(f.At < 0 || f.At > 65535 || f.Mask < 0 || f.Mask > 65535)
}

// turned is a text, in which bits are turned from one on: the highest one of the mask is the first one's.
func turned(s string, at, mask int) string {
	b := []byte(s)
	for k := range 16 {
		if bit := at + k; bit < 8*len(b) && mask/(1<<(15-k))%2 == 1 {
			b[bit/8] ^= 128 >> (bit % 8)
		}
	}
	return string(b)
}

// passed is I2's, by its words.
func passed(s string, f api.Fault) (string, bool) {
	switch {
	case !may(f) || f.Kind == 1:
		return "", false
	case f.Kind == 0 || s == "":
		return s, true
	}
	return turned(s, f.At%(8*len(s)), f.Mask), true
}

// inside is I3's, by its words.
func inside(dev, window int) bool {
	if window < 0 || window > 1000 {
		return false
	}
	for d := -window; d <= window; d++ {
		if d == dev {
			return true
		}
	}
	return false
}

// heard is I4's, by its words.
func heard(s string, f api.Fault, dev, window int) (api.Frame, int) {
	came, is := passed(s, f)
	if !is || came == "" {
		return api.Frame{}, 0
	}
	if !inside(dev, window) {
		return api.Frame{}, 2
	}
	got, e := frame.Decode(came)
	if e != api.OK {
		return api.Frame{}, 2
	}
	return got, 1
}

// listed are a frame's lists, which == does not hold against each other.
func listed(f api.Frame) ([]api.Piece, []api.Entry, api.Frame) {
	pieces, entries := f.Pieces, f.Entries
	f.Pieces, f.Entries = nil, nil
	return pieces, entries, f
}

func sameEntry(a, b api.Entry) bool {
	return a.Term == b.Term && a.Epoch == b.Epoch && a.Members == b.Members && slices.Equal(a.Incs, b.Incs) && slices.Equal(a.Msgs, b.Msgs)
}

func same(a, b api.Frame) bool {
	pieces, entries, left := listed(a)
	others, more, right := listed(b)
	return slices.Equal(pieces, others) && slices.EqualFunc(entries, more, sameEntry) && reflect.DeepEqual(left, right)
}

func mays(t *testing.T, f api.Fault, want bool) {
	t.Helper()
	if got := bus.May(f); got != want {
		t.Errorf("%v: %t", f, got)
	}
}

func TestI1MayAtTheEdges(t *testing.T) {
	for kind, want := range map[int]bool{-1: false, 0: true, 1: true, 2: true, 3: false} {
		mays(t, api.Fault{Kind: kind}, want)
		mays(t, api.Fault{Kind: kind, At: 65535, Mask: 65535}, want)
		for n, is := range map[int]bool{-1: false, 0: true, 65535: true, 65536: false} {
			mays(t, api.Fault{Kind: kind, At: n, Mask: 5}, want && is)
			mays(t, api.Fault{Kind: kind, At: 5, Mask: n}, want && is)
			mays(t, api.Fault{Kind: kind, At: n, Mask: n}, want && is)
		}
	}
	mays(t, passes(), true)
	mays(t, loses(), true)
	mays(t, spoils(0, 0), true)
}

func TestI1MayOfAllFaults(t *testing.T) {
	is := 0
	for _, f := range faults() {
		mays(t, f, may(f))
		if may(f) {
			is++
		}
	}
	if is < 500 {
		t.Errorf("%d may be", is)
	}
}

func goesBy(t *testing.T, s string, f api.Fault, want string, is bool) {
	t.Helper()
	if got, told := bus.Pass(s, f); got != want || told != is {
		t.Errorf("%.99x: %v: %.99x, %t, not %.99x, %t", s, f, got, told, want, is)
	}
}

func TestI2PassOfWhatMayNotBe(t *testing.T) {
	for _, s := range texts(t) {
		for _, f := range []api.Fault{
			{Kind: -1}, {Kind: 3}, {Kind: math.MaxInt}, {Kind: math.MinInt},
			{At: -1}, {At: 65536}, {Mask: -1}, {Mask: 65536},
			spoils(-1, 0), spoils(65536, 0), spoils(0, -1), spoils(0, 65536), spoils(math.MaxInt, 1), spoils(1, math.MinInt),
		} {
			goesBy(t, s, f, "", false)
		}
	}
}

// What is passed or lost does not hang on At and Mask, as long as these may be.
func TestI2PassOfWhatPassesAndIsLost(t *testing.T) {
	for _, s := range texts(t) {
		for _, n := range []int{0, 1, 8, 216, 32768, 65535} {
			goesBy(t, s, api.Fault{Kind: api.Passes, At: n, Mask: 65535}, s, true)
			goesBy(t, s, api.Fault{Kind: api.Passes, At: 1, Mask: n}, s, true)
			goesBy(t, s, api.Fault{Kind: api.Loses, At: n, Mask: 65535}, "", false)
			goesBy(t, s, api.Fault{Kind: api.Loses, At: 1, Mask: n}, "", false)
		}
	}
}

// Texts are written out, so that these hang on no other reckoning.
func TestI2PassOfWhatIsSpoilt(t *testing.T) {
	for _, x := range []struct {
		s        string
		at, mask int
		want     string
	}{
		{"\x00", 0, 65535, "\xff"}, {"\x00", 0, 32768, "\x80"}, {"\x00", 7, 65535, "\x01"}, {"\x00", 7, 32767, "\x00"}, {"\x00", 0, 255, "\x00"}, {"\x00", 0, 256, "\x01"},
		{"\x00", 8, 32768, "\x80"}, {"\x00", 9, 32768, "\x40"}, {"\x00", 15, 65535, "\x01"}, {"\x00", 16, 65535, "\xff"}, {"\x00", 65535, 65535, "\x01"}, {"\x00", 65528, 1 << 14, "\x40"},
		{"\xff", 3, 0xa000, "\xeb"}, {"\xff", 3, 0, "\xff"}, {"\xff", 3, 1, "\xff"},
		{"\x00\x00", 0, 1, "\x00\x01"}, {"\x00\x00", 1, 1, "\x00\x00"}, {"\x00\x00", 16, 1, "\x00\x01"}, {"\x00\x00", 17, 1, "\x00\x00"}, {"\x00\x00", 17, 2, "\x00\x01"}, {"\x00\x00", 4, 65535, "\x0f\xff"},
		{"\x00\x00\x00", 23, 65535, "\x00\x00\x01"}, {"\x00\x00\x00", 24, 65535, "\xff\xff\x00"}, {"\x00\x00\x00", 4, 65535, "\x0f\xff\xf0"}, {"\x00\x00\x00", 4, 1, "\x00\x00\x10"},
		// 65535 is 15 more than 2730 times 24, and 24 more than 65511 is.
		{"\x00\x00\x00", 65535, 32768, "\x00\x01\x00"}, {"\x00\x00\x00", 65511, 32768, "\x00\x01\x00"},
		{"ab", 7, 32768, "`b"}, {"ab", 23, 32768, "`b"}, {"ab", 23, 0, "ab"},
	} {
		goesBy(t, x.s, spoils(x.at, x.mask), x.want, true)
	}
}

func TestI2PassOfNoBytes(t *testing.T) {
	for _, n := range []int{0, 1, 7, 8, 216, 65535} {
		for _, mask := range []int{0, 1, 32768, 65535} {
			goesBy(t, "", spoils(n, mask), "", true)
		}
	}
	goesBy(t, "", passes(), "", true)
	goesBy(t, "", loses(), "", false)
	goesBy(t, "", spoils(-1, 1), "", false)
}

// At at, above and far above how many bits there are.
func TestI2PassByAllAts(t *testing.T) {
	for _, s := range texts(t) {
		bits := 8 * len(s)
		for _, at := range append(numbers(), bits-17, bits-16, bits-15, bits-2, bits-1, bits, bits+1, bits+7, 2*bits-1, 2*bits, 2*bits+1, 37*bits+5) {
			for _, mask := range []int{0, 1, 2, 0x1021, 32768, 65535, -1, 65536} {
				want, is := passed(s, spoils(at, mask))
				goesBy(t, s, spoils(at, mask), want, is)
			}
		}
	}
	s := bytesOf(t, whole())
	for at := range 1 << 16 {
		goesBy(t, s, spoils(at, 0xb003), turned(s, at%(8*len(s)), 0xb003), true)
	}
	// It is chapter 1's Burst.
	for at := range 8 * len(s) {
		for _, mask := range []int{0, 1, 0x1021, 65535} {
			goesBy(t, s, spoils(at, mask), crc.Burst(s, at, mask), true)
		}
	}
}

func TestI2PassOfAllFaults(t *testing.T) {
	for _, s := range []string{"", "a", "\x00\xff", bytesOf(t, whole())} {
		for _, f := range faults() {
			want, is := passed(s, f)
			goesBy(t, s, f, want, is)
		}
	}
}

func stands(t *testing.T, dev, window int, want bool) {
	t.Helper()
	if got := bus.Inside(dev, window); got != want {
		t.Errorf("%d of %d: %t", dev, window, got)
	}
}

func TestI3InsideAtTheEdges(t *testing.T) {
	stands(t, -3, 3, true)
	stands(t, 4, 3, false)
	for _, window := range []int{0, 1, 3, 999, 1000} {
		for dev, want := range map[int]bool{
			-window: true, window: true, 0: true, window - 1: window > 0, 1 - window: window > 0,
			-window - 1: false, window + 1: false, math.MinInt: false, math.MinInt + 1: false, math.MaxInt: false, math.MaxInt - 1: false,
		} {
			stands(t, dev, window, want)
		}
	}
	for _, window := range []int{-1, 1001, -2, -3, -1000, -1001, 1002, 1 << 32, 1<<32 + 3, math.MaxInt, math.MinInt, math.MinInt + 1} {
		for _, dev := range []int{0, 1, -1, window, -window, window - 1, window + 1, 1000, -1000, 1001, -1001, math.MinInt, math.MaxInt} {
			stands(t, dev, window, false)
		}
	}
}

func TestI3InsideOfAllWindows(t *testing.T) {
	for window := -2; window <= 1003; window++ {
		for dev := -1003; dev <= 1003; dev += 1 + (dev+1003)%3 {
			stands(t, dev, window, inside(dev, window))
		}
		for _, dev := range []int{-window - 1, -window, window, window + 1} {
			stands(t, dev, window, inside(dev, window))
		}
	}
}

func hears(t *testing.T, s string, f api.Fault, dev, window int, want api.Frame, how int) {
	t.Helper()
	if got, told := bus.Hear(s, f, dev, window); !same(got, want) || told != how {
		t.Errorf("%.99x: %v, %d of %d: %v, %d, not %v, %d", s, f, dev, window, got, told, want, how)
	}
}

func TestI4HearOfAFrame(t *testing.T) {
	for _, f := range frames() {
		s := bytesOf(t, f)
		last := 8*len(s) - 1
		for _, fault := range []api.Fault{
			passes(), {At: 65535, Mask: 65535},
			// These turn nothing: there is no bit behind the last one.
			spoils(5, 0), spoils(65535, 0), spoils(last, 1), spoils(last, 32767), spoils(last-14, 1), spoils(2*last+1, 1),
		} {
			hears(t, s, fault, 0, 0, f, api.Good)
			hears(t, s, fault, 5, 5, f, api.Good)
			hears(t, s, fault, -5, 5, f, api.Good)
			hears(t, s, fault, 6, 5, api.Frame{}, api.Spoilt)
			hears(t, s, fault, -6, 5, api.Frame{}, api.Spoilt)
		}
		for _, fault := range []api.Fault{
			spoils(0, 1), spoils(0, 32768), spoils(5, 65535), spoils(last, 32768), spoils(last-15, 1), spoils(last+1, 1), spoils(65535, 65535),
		} {
			hears(t, s, fault, 0, 5, api.Frame{}, api.Spoilt)
			hears(t, s, fault, 6, 5, api.Frame{}, api.Spoilt)
		}
		for _, fault := range []api.Fault{
			loses(), {Kind: api.Loses, At: 65535, Mask: 65535},
			{Kind: -1}, {Kind: 3}, {At: -1}, {At: 65536}, {Mask: -1}, {Mask: 65536}, spoils(0, 65536), spoils(65536, 0), spoils(-1, 0), spoils(0, -1),
		} {
			hears(t, s, fault, 0, 5, api.Frame{}, api.Silent)
			hears(t, s, fault, 6, 5, api.Frame{}, api.Silent)
		}
	}
}

func TestI4HearByWindows(t *testing.T) {
	for _, f := range frames() {
		s := bytesOf(t, f)
		for _, window := range []int{-1, 0, 1, 5, 1000, 1001, math.MaxInt, math.MinInt} {
			for _, dev := range []int{0, -window, window, window - 1, -window - 1, window + 1, 1000, 1001, math.MinInt, math.MaxInt} {
				want, how := f, api.Good
				if !inside(dev, window) {
					want, how = api.Frame{}, api.Spoilt
				}
				hears(t, s, passes(), dev, window, want, how)
				hears(t, s, spoils(9, 0), dev, window, want, how)
				hears(t, s, spoils(9, 4), dev, window, api.Frame{}, api.Spoilt)
				hears(t, s, loses(), dev, window, api.Frame{}, api.Silent)
			}
		}
	}
}

// Where there are no bytes nothing is spoilt, whatever the deviation.
func TestI4HearOfNoBytes(t *testing.T) {
	for _, f := range []api.Fault{passes(), loses(), spoils(0, 0), spoils(23, 1), spoils(65535, 65535), {Kind: 3}, {At: -1}, {Mask: 65536}} {
		for _, dev := range []int{0, 5, 6, -6, math.MinInt, math.MaxInt} {
			for _, window := range []int{-1, 0, 5, 1000, 1001} {
				hears(t, "", f, dev, window, api.Frame{}, api.Silent)
			}
		}
	}
}

func TestI4HearOfWhatIsNoFrame(t *testing.T) {
	s := bytesOf(t, whole())
	none := []string{
		"\x00", "a", "text", crc.Close(""), crc.Close("text"), strings.Repeat("\x00", 27), strings.Repeat("\xff", 27), strings.Repeat("\xc5", 999),
		s[1:], s[:len(s)-1], s + "\x00", s + s, "\xc5" + s, s[:len(s)-2], crc.Close(s), crc.Close("\xc4" + s[1:len(s)-2]), crc.Close(s[:20]), crc.Close(s[:len(s)-3]),
		// Who sends was started never.
		crc.Close("\xc5" + strings.Repeat("\x00", 24)),
	}
	for _, s := range none {
		for _, f := range []api.Fault{passes(), spoils(0, 0), spoils(65535, 0)} {
			hears(t, s, f, 0, 5, api.Frame{}, api.Spoilt)
			hears(t, s, f, 6, 5, api.Frame{}, api.Spoilt)
		}
		hears(t, s, loses(), 0, 5, api.Frame{}, api.Silent)
		hears(t, s, api.Fault{Kind: 3}, 6, 5, api.Frame{}, api.Silent)
	}
}

// What comes is heard, not what was sent: bits that are turned twice are as they were.
func TestI4HearOfWhatComes(t *testing.T) {
	for _, f := range frames() {
		s := bytesOf(t, f)
		for at := 0; at < 8*len(s); at += 5 {
			fault := spoils(at+8*len(s), 0x9003)
			burst := turned(s, at, 0x9003)
			hears(t, burst, fault, -2, 3, f, api.Good)
			hears(t, burst, fault, -4, 3, api.Frame{}, api.Spoilt)
			hears(t, burst, passes(), -2, 3, api.Frame{}, api.Spoilt)
			hears(t, burst, loses(), -2, 3, api.Frame{}, api.Silent)
		}
	}
}

func TestI4HearOfAllFaults(t *testing.T) {
	for _, s := range texts(t) {
		for _, f := range faults() {
			if f.At > 300 && f.At < 60000 || f.Mask > 300 && f.Mask < 60000 {
				continue
			}
			for _, dev := range []int{-3, 4} {
				want, how := heard(s, f, dev, 3)
				hears(t, s, f, dev, 3, want, how)
			}
		}
	}
}

func allHear(t *testing.T, s string, window int, devs []int, faults []api.Fault, want ...int) {
	t.Helper()
	if got := bus.All(s, window, devs, faults...); !slices.Equal(got, want) {
		t.Errorf("%.99x: %v of %d, %v: %v, not %v", s, devs, window, faults, got, want)
	}
}

func TestI5All(t *testing.T) {
	s := bytesOf(t, whole())
	if l := bus.All(s, 5, nil); len(l) != 0 {
		t.Error(l)
	}
	if l := bus.All(s, 5, []int{1, 2, 3}); len(l) != 0 {
		t.Error(l)
	}
	some := []api.Fault{passes(), loses(), spoils(7, 1), passes(), {Kind: 3}, spoils(7, 0)}
	allHear(t, s, 5, nil, some, 1, 0, 2, 1, 0, 1)
	allHear(t, s, 5, []int{}, some[:1], 1)
	allHear(t, s, 5, []int{6}, some[:1], 2)
	allHear(t, s, 5, []int{6, 6}, some[:1], 2)
	allHear(t, s, 5, []int{6}, some, 2, 0, 2, 1, 0, 1)
	allHear(t, s, 5, []int{6, 0, 0, -6}, some, 2, 0, 2, 2, 0, 1)
	allHear(t, s, 5, []int{0, 6, 6, 5, 6, 6}, some, 1, 0, 2, 1, 0, 2)
	allHear(t, s, 5, []int{0, 6, 6, 5, 6, -5, 6, 6, 6}, some, 1, 0, 2, 1, 0, 1)
	allHear(t, s, 0, []int{1, 0}, []api.Fault{passes(), passes(), passes()}, 2, 1, 1)
	allHear(t, s, -1, nil, some, 2, 0, 2, 2, 0, 2)
	allHear(t, s, 1001, nil, some, 2, 0, 2, 2, 0, 2)
	allHear(t, "", 5, []int{6}, some, 0, 0, 0, 0, 0, 0)
	allHear(t, "text", 5, []int{6}, some, 2, 0, 2, 2, 0, 2)
}

// Of fewer devs than faults, of as many, and of more.
func TestI5AllIsWhatEachOneHears(t *testing.T) {
	chance := rand.New(rand.NewSource(9))
	all := append(faults(), slices.Repeat([]api.Fault{passes(), spoils(3, 0), spoils(3, 9)}, 999)...)
	for _, s := range texts(t) {
		for _, many := range []int{0, 1, 2, 3, 15, 16, 17, 40} {
			for _, told := range []int{0, 1, many - 1, many, many + 1, 2 * many} {
				var some []api.Fault
				for range many {
					some = append(some, all[chance.Intn(len(all))])
				}
				devs := make([]int, max(told, 0))
				for k := range devs {
					devs[k] = chance.Intn(9) - 4
				}
				var want []int
				for k, f := range some {
					dev := 0
					if k < len(devs) {
						dev = devs[k]
					}
					_, how := heard(s, f, dev, 3)
					want = append(want, how)
				}
				allHear(t, s, 3, devs, some, want...)
			}
		}
	}
}

// masks are of one bit, of a row of bits, of two bits apart, and others.
func masks() []int {
	l := []int{0, 0xa5a5, 0x5a5a, 0x1021, 0x8810, 0xffff}
	for low := range 16 {
		for high := low; high < 16; high++ {
			l = append(l, 1<<low|1<<high, 1<<(high+1)-1<<low)
		}
	}
	return l
}

func TestI6WhatIsHeardIsWhatWasSentOrNothing(t *testing.T) {
	sent, spoilt := 0, 0
	told := func(s string, want api.Frame, fault api.Fault, dev, window int) {
		got, how := bus.Hear(s, fault, dev, window)
		if how == api.Good {
			sent++
		} else {
			want = api.Frame{}
		}
		if how == api.Spoilt {
			spoilt++
		}
		if !same(got, want) || how < api.Silent || how > api.Spoilt {
			t.Fatalf("%x: %v, %d of %d: %v, %d", s, fault, dev, window, got, how)
		}
	}
	for _, f := range frames() {
		s := bytesOf(t, f)
		for at := range 8 * len(s) {
			for _, mask := range masks() {
				told(s, f, spoils(at, mask), 0, 3)
			}
		}
		for _, fault := range faults() {
			told(s, f, fault, 1, 3)
			told(s, f, fault, 4, 3)
		}
	}
	// All that can be done from some bits on.
	s := bytesOf(t, bare())
	for at := 0; at < 8*len(s); at += 23 {
		for mask := range 1 << 16 {
			told(s, bare(), spoils(at, mask), 0, 0)
		}
	}
	chance := rand.New(rand.NewSource(96))
	for range 50000 {
		f := bare()
		f.Sender, f.Round, f.Term, f.Ack, f.Inc = chance.Intn(16), chance.Intn(65536), chance.Intn(65536), chance.Intn(65536), 1+chance.Intn(65535)
		told(bytesOf(t, f), f, api.Fault{Kind: chance.Intn(3), At: chance.Intn(65536), Mask: chance.Intn(65536)}, chance.Intn(5), 3)
	}
	if sent < 5000 || spoilt < 500000 {
		t.Errorf("%d were heard, %d were spoilt", sent, spoilt)
	}
}

// A frame that nothing turned is heard, one that anything turned is not.
func TestI6NothingTurnedIsHeardAllElseIsNot(t *testing.T) {
	for _, f := range frames() {
		s := bytesOf(t, f)
		for at := range 2 * 8 * len(s) {
			for _, mask := range []int{0, 1, 3, 32767, 32768, 65535} {
				want, how := f, api.Good
				if turned(s, at%(8*len(s)), mask) != s {
					want, how = api.Frame{}, api.Spoilt
				}
				hears(t, s, spoils(at, mask), 0, 0, want, how)
			}
		}
	}
}

// R3: what is handed in stays as it was, what stands behind its length too.
func TestWhatIsHandedInStays(t *testing.T) {
	for _, s := range texts(t) {
		s, kept := strings.Clone(s), strings.Clone(s)
		devs := []int{4, -4, 0, 3, 77, 78}
		some := []api.Fault{passes(), spoils(3, 65535), loses(), {Kind: 3}, spoils(3, 0), {Kind: 77, At: 78, Mask: 79}}
		devsWere, someWere := slices.Clone(devs), slices.Clone(some)
		for k := range len(devs) {
			bus.All(s, 3, devs[:k], some[:len(some)-k]...)
		}
		for _, f := range some {
			bus.Pass(s, f)
			bus.Hear(s, f, 2, 3)
		}
		if s != kept || !slices.Equal(devs, devsWere) || !slices.Equal(some, someWere) {
			t.Errorf("%.99x: %v, %v", s, devs, some)
		}
	}
}

// shares tells whether bytes of a stand in b's memory.
func shares(a, b string) bool {
	if a == "" || b == "" {
		return false
	}
	first, second := uintptr(unsafe.Pointer(unsafe.StringData(a))), uintptr(unsafe.Pointer(unsafe.StringData(b)))
	return first < second+uintptr(len(b)) && second < first+uintptr(len(a))
}

// textsOf are those that stand in a frame.
func textsOf(f api.Frame) []string {
	var l []string
	for _, p := range f.Pieces {
		l = append(l, p.Bytes)
	}
	for _, e := range f.Entries {
		for _, m := range e.Msgs {
			l = append(l, m.Data)
		}
	}
	return l
}

// scribble writes into all lists of a frame, spare room too.
func scribble(f api.Frame) {
	for _, e := range f.Entries {
		clear(e.Incs[:cap(e.Incs)])
		clear(e.Msgs[:cap(e.Msgs)])
	}
	clear(f.Pieces[:cap(f.Pieces)])
	clear(f.Entries[:cap(f.Entries)])
}

// R3: what comes out is its owner's, spare room too.
func TestWhatComesOutIsNewMemory(t *testing.T) {
	for _, s := range texts(t) {
		if len(s) == 1 {
			// Go itself keeps one text for each byte alone.
			continue
		}
		for _, f := range []api.Fault{passes(), spoils(0, 0), spoils(9, 1), spoils(65535, 65535)} {
			s := strings.Clone(s)
			first, _ := bus.Pass(s, f)
			second, _ := bus.Pass(s, f)
			if shares(first, s) || shares(first, second) {
				t.Errorf("%.99x: %v: memory that is shared", s, f)
			}
		}
	}
	for _, want := range frames() {
		s := bytesOf(t, want)
		first, _ := bus.Hear(s, passes(), 0, 0)
		second, _ := bus.Hear(s, passes(), 0, 0)
		all := append(textsOf(first), textsOf(second)...)
		for k, a := range all {
			if shares(a, s) || slices.ContainsFunc(all[:k], func(b string) bool { return shares(a, b) }) {
				t.Errorf("%v: memory that is shared", first)
			}
		}
		scribble(first)
		if !same(second, want) {
			t.Errorf("%v is changed", second)
		}
	}
	s := bytesOf(t, whole())
	some := slices.Repeat([]api.Fault{passes(), spoils(9, 1)}, 4)
	first := bus.All(s, 3, nil, some...)
	second := bus.All(s, 3, nil, some...)
	for k := range first[:cap(first)] {
		first[:cap(first)][k] = 77
	}
	if want := []int{1, 2, 1, 2, 1, 2, 1, 2}; !slices.Equal(second, want) {
		t.Errorf("%v is changed", second)
	}
	allHear(t, s, 3, nil, some, 1, 2, 1, 2, 1, 2, 1, 2)
}

// R1, R4: at all arguments calls end, and answer the same again.
func TestRulesHoldAtAllArguments(t *testing.T) {
	for _, s := range texts(t) {
		for _, n := range numbers() {
			for _, kind := range kinds() {
				f := api.Fault{Kind: kind, At: n, Mask: 65535 - n%65536}
				first, is := bus.Pass(s, f)
				second, told := bus.Pass(s, f)
				if first != second || is != told || !is && first != "" {
					t.Errorf("%.99x: %v: %.99x, %t, and then %.99x, %t", s, f, first, is, second, told)
				}
				got, how := bus.Hear(s, f, n, kind)
				again, then := bus.Hear(s, f, n, kind)
				if !reflect.DeepEqual(got, again) || how != then || how != api.Good && !same(got, api.Frame{}) {
					t.Errorf("%.99x: %v: %v, %d, and then %v, %d", s, f, got, how, again, then)
				}
				allHear(t, s, kind, []int{n}, []api.Fault{f}, how)
			}
		}
	}
}
