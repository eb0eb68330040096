package ident_test

import (
	"math"
	"slices"
	"sort"
	"testing"

	"omnibus/api"
	"omnibus/ident"
)

const (
	two18 = 262144
	two19 = 524288
	two29 = 536870912
	two30 = 1073741824
	two31 = 2147483648
)

// numbers are ordinary ones, the edges of both kinds of identifiers, and what goes far beyond.
func numbers() []int {
	return []int{
		0, 1, 5, 7, 8, 1000, 1024, 2046, 2047, 2048, 2049, 4095, 65535,
		two18 - 1, two18, two18 + 1, 5 * two18, 5*two18 + 77, two19 - 1, two19, two19 + 1,
		2047 * two18, 2047*two18 + 5, two29 - 2, two29 - 1, two29, two29 + 1, two30 - 1, two30,
		two31 - 1, two31, two31 + 5, 1 << 32, 1<<32 + 5, 1 << 45, 1<<62 + 5, math.MaxInt,
		-1, -2, -5, -2047, -2048, -two18, -two29, -two31, -1 << 45, math.MinInt, math.MinInt + 5,
	}
}

func idents() []api.Ident {
	var l []api.Ident
	for _, n := range numbers() {
		l = append(l, api.Ident{N: n}, api.Ident{Ext: true, N: n})
	}
	return l
}

func rightIdents() []api.Ident {
	return slices.DeleteFunc(idents(), func(i api.Ident) bool { return !right(i) })
}

// top is the greatest number that B1 names.
func top(ext bool) int {
	if ext {
		return 536870911
	}
	return 2047
}

func inside(ext bool, n int) bool { return n >= 0 && n <= top(ext) }

func right(i api.Ident) bool { return inside(i.Ext, i.N) }

// base is an identifier's, by the chapter's words.
func base(i api.Ident) int {
	if i.Ext {
		return i.N / two18
	}
	return i.N
}

// key is B1's, by its words, of a right identifier.
func key(i api.Ident) int {
	k := two19 * base(i)
	if i.Ext {
		k += two18 + i.N%two18
	}
	return k
}

// text is B3's, by its words, of a right identifier.
func text(i api.Ident) string {
	n := i.N
	if i.Ext {
		n += two31
	}
	return string([]byte{byte(n / 16777216), byte(n / 65536 % 256), byte(n / 256 % 256), byte(n % 256)})
}

// lets is B4's Match, by its words.
func lets(f api.Filter, i api.Ident) bool {
	if !inside(f.Ext, f.Code) || !inside(f.Ext, f.Mask) || !right(i) || f.Ext != i.Ext {
		return false
	}
	for bit := 1; bit < two29; bit *= 2 {
		if f.Mask/bit%2 == 1 && i.N/bit%2 != f.Code/bit%2 {
			return false
		}
	}
	return true
}

func TestB1Right(t *testing.T) {
	for _, x := range []struct {
		n           int
		short, wide bool
	}{
		{-1, false, false}, {0, true, true}, {5, true, true}, {2047, true, true}, {2048, false, true},
		{two29 - 1, false, true}, {two29, false, false}, {two31, false, false}, {two31 + 5, false, false},
		{1 << 32, false, false}, {math.MaxInt, false, false}, {math.MinInt, false, false},
	} {
		if got := ident.Right(api.Ident{N: x.n}); got != x.short {
			t.Errorf("short %d: %t", x.n, got)
		}
		if got := ident.Right(api.Ident{Ext: true, N: x.n}); got != x.wide {
			t.Errorf("wide %d: %t", x.n, got)
		}
	}
	for _, i := range idents() {
		if got := ident.Right(i); got != right(i) {
			t.Errorf("%v: %t", i, got)
		}
	}
}

func TestB1Key(t *testing.T) {
	for _, x := range []struct {
		i   api.Ident
		key int
	}{
		{api.Ident{N: 0}, 0},
		{api.Ident{N: 5}, 2621440},
		{api.Ident{N: 2047}, 1073217536},
		{api.Ident{Ext: true, N: 0}, 262144},
		{api.Ident{Ext: true, N: 5}, 262149},
		{api.Ident{Ext: true, N: two18 - 1}, 524287},
		{api.Ident{Ext: true, N: two18}, 786432},
		{api.Ident{Ext: true, N: 5 * two18}, 2883584},
		{api.Ident{Ext: true, N: 5*two18 + 77}, 2883661},
		{api.Ident{Ext: true, N: two29 - 1}, two30 - 1},
	} {
		if got, e := ident.Key(x.i); got != x.key || e != api.OK {
			t.Errorf("%v: %d, %d, not %d", x.i, got, e, x.key)
		}
	}
	for _, i := range idents() {
		want, fault := 0, api.ErrArg
		if right(i) {
			want, fault = key(i), api.OK
		}
		if got, e := ident.Key(i); got != want || e != fault {
			t.Errorf("%v: %d, %d, not %d, %d", i, got, e, want, fault)
		}
	}
}

// Keys of all kinds, those that are none among them: a short identifier's with a rest, and those out of range.
func TestB1At(t *testing.T) {
	for _, x := range []struct {
		key int
		i   api.Ident
		e   api.Errno
	}{
		{0, api.Ident{}, api.OK},
		{1, api.Ident{}, api.ErrArg},
		{two18 - 1, api.Ident{}, api.ErrArg},
		{two18, api.Ident{Ext: true}, api.OK},
		{two18 + 1, api.Ident{Ext: true, N: 1}, api.OK},
		{two19 - 1, api.Ident{Ext: true, N: two18 - 1}, api.OK},
		{two19, api.Ident{N: 1}, api.OK},
		{two19 + 1, api.Ident{}, api.ErrArg},
		{two19 + two18, api.Ident{Ext: true, N: two18}, api.OK},
		{2621440, api.Ident{N: 5}, api.OK},
		{2883584, api.Ident{Ext: true, N: 5 * two18}, api.OK},
		{1073217536, api.Ident{N: 2047}, api.OK},
		{1073217537, api.Ident{}, api.ErrArg},
		{two30 - 1, api.Ident{Ext: true, N: two29 - 1}, api.OK},
		{two30, api.Ident{}, api.ErrArg},
		{two30 + two18, api.Ident{}, api.ErrArg},
		{two30 + two19, api.Ident{}, api.ErrArg},
		{two31 + two19, api.Ident{}, api.ErrArg},
		{1<<32 + two19, api.Ident{}, api.ErrArg},
		{1<<32 + two18 + 5, api.Ident{}, api.ErrArg},
		{1<<62 + two18, api.Ident{}, api.ErrArg},
		{math.MaxInt, api.Ident{}, api.ErrArg},
		{-1, api.Ident{}, api.ErrArg},
		{-two18, api.Ident{}, api.ErrArg},
		{-two19, api.Ident{}, api.ErrArg},
		{math.MinInt, api.Ident{}, api.ErrArg},
		{math.MinInt + two18, api.Ident{}, api.ErrArg},
		{math.MinInt + two19, api.Ident{}, api.ErrArg},
	} {
		if i, e := ident.At(x.key); i != x.i || e != x.e {
			t.Errorf("%d: %v, %d, not %v, %d", x.key, i, e, x.i, x.e)
		}
	}
}

// at is the right identifier of a key, sought by the words, and whether there is one.
func at(k int) (api.Ident, bool) {
	if k < 0 || k >= two30 {
		return api.Ident{}, false
	}
	base, below := k/two19, k%two19
	if below >= two18 {
		return api.Ident{Ext: true, N: base*two18 + below - two18}, true
	}
	return api.Ident{N: base}, below == 0
}

func TestB1AtOfManyKeys(t *testing.T) {
	check := func(k int) {
		want, is := at(k)
		if !is {
			want = api.Ident{}
		}
		if i, e := ident.At(k); i != want || (e == api.OK) != is || !is && e != api.ErrArg {
			t.Errorf("%d: %v, %d", k, i, e)
		}
	}
	for k := -100; k < 2*two19+100; k++ {
		check(k)
	}
	for base := -3; base < 2053; base++ {
		for _, below := range []int{0, 1, 2, 77, two18 - 1, two18, two18 + 1, two18 + 77, two19 - 1} {
			check(base*two19 + below)
		}
	}
	for _, k := range numbers() {
		check(k)
	}
}

// What goes ahead stands ahead here.
func ordered() []api.Ident {
	return []api.Ident{
		{N: 0}, {Ext: true, N: 0}, {Ext: true, N: 1}, {Ext: true, N: two18 - 1},
		{N: 1}, {Ext: true, N: two18}, {Ext: true, N: two18 + 1},
		{N: 5}, {Ext: true, N: 5 * two18}, {Ext: true, N: 5*two18 + 77}, {N: 6},
		{N: 2046}, {Ext: true, N: 2046*two18 + 9}, {N: 2047}, {Ext: true, N: 2047 * two18}, {Ext: true, N: two29 - 1},
	}
}

func TestB2Less(t *testing.T) {
	l := ordered()
	for i, a := range l {
		for k, b := range l {
			if got := ident.Less(a, b); got != (i < k) {
				t.Errorf("%v %v: %t", a, b, got)
			}
		}
	}
	for _, a := range idents() {
		for _, b := range idents() {
			want := right(a) && right(b) && key(a) < key(b)
			if got := ident.Less(a, b); got != want {
				t.Errorf("%v %v: %t", a, b, got)
			}
		}
	}
}

func TestB2LessOfWhatIsNotRight(t *testing.T) {
	wrong := []api.Ident{
		{N: -1}, {N: 2048}, {N: math.MinInt}, {N: math.MaxInt},
		{Ext: true, N: -1}, {Ext: true, N: two29}, {Ext: true, N: math.MinInt}, {Ext: true, N: math.MaxInt},
	}
	for _, a := range wrong {
		for _, b := range append(ordered(), wrong...) {
			if ident.Less(a, b) || ident.Less(b, a) {
				t.Errorf("%v %v", a, b)
			}
		}
	}
}

func TestB3Print(t *testing.T) {
	for _, x := range []struct {
		i api.Ident
		s string
		e api.Errno
	}{
		{api.Ident{}, "\x00\x00\x00\x00", api.OK},
		{api.Ident{N: 5}, "\x00\x00\x00\x05", api.OK},
		{api.Ident{N: 2047}, "\x00\x00\x07\xff", api.OK},
		{api.Ident{N: 2048}, "", api.ErrArg},
		{api.Ident{N: -1}, "", api.ErrArg},
		{api.Ident{N: two31}, "", api.ErrArg},
		{api.Ident{Ext: true}, "\x80\x00\x00\x00", api.OK},
		{api.Ident{Ext: true, N: 0x01020304}, "\x81\x02\x03\x04", api.OK},
		{api.Ident{Ext: true, N: two29 - 1}, "\x9f\xff\xff\xff", api.OK},
		{api.Ident{Ext: true, N: two29}, "", api.ErrArg},
		{api.Ident{Ext: true, N: -1}, "", api.ErrArg},
	} {
		if s, e := ident.Print(x.i); s != x.s || e != x.e {
			t.Errorf("%v: %q, %d, not %q, %d", x.i, s, e, x.s, x.e)
		}
	}
	for _, i := range idents() {
		want, fault := "", api.ErrArg
		if right(i) {
			want, fault = text(i), api.OK
		}
		if s, e := ident.Print(i); s != want || e != fault {
			t.Errorf("%v: %q, %d, not %q, %d", i, s, e, want, fault)
		}
	}
}

func TestB3Parse(t *testing.T) {
	for _, x := range []struct {
		s string
		i api.Ident
		e api.Errno
	}{
		{"", api.Ident{}, api.ErrShort},
		{"\x00", api.Ident{}, api.ErrShort},
		{"\x00\x00\x05", api.Ident{}, api.ErrShort},
		{"\xff\xff\xff", api.Ident{}, api.ErrShort},
		{"\x00\x00\x00\x05", api.Ident{N: 5}, api.OK},
		{"\x00\x00\x07\xff", api.Ident{N: 2047}, api.OK},
		{"\x00\x00\x08\x00", api.Ident{}, api.ErrForm},
		{"\x00\x01\x00\x05", api.Ident{}, api.ErrForm},
		{"\x20\x00\x00\x00", api.Ident{}, api.ErrForm},
		{"\x40\x00\x00\x05", api.Ident{}, api.ErrForm},
		{"\x7f\xff\xff\xff", api.Ident{}, api.ErrForm},
		{"\x80\x00\x00\x00", api.Ident{Ext: true}, api.OK},
		{"\x80\x00\x08\x00", api.Ident{Ext: true, N: 2048}, api.OK},
		{"\x81\x02\x03\x04", api.Ident{Ext: true, N: 0x01020304}, api.OK},
		{"\x9f\xff\xff\xff", api.Ident{Ext: true, N: two29 - 1}, api.OK},
		{"\xa0\x00\x00\x00", api.Ident{}, api.ErrForm},
		{"\xc0\x00\x00\x00", api.Ident{}, api.ErrForm},
		{"\xff\xff\xff\xff", api.Ident{}, api.ErrForm},
		{"\x00\x00\x00\x05\x00", api.Ident{}, api.ErrLong},
		{"\xff\xff\xff\xff\xff", api.Ident{}, api.ErrLong},
		{"\x00\x00\x00\x00\x05", api.Ident{}, api.ErrLong},
	} {
		if i, e := ident.Parse(x.s); i != x.i || e != x.e {
			t.Errorf("%q: %v, %d, not %v, %d", x.s, i, e, x.i, x.e)
		}
	}
}

// bytesOf are bytes at which a text may change from right to none, and some others.
func bytesOf() []byte {
	return []byte{0, 1, 5, 7, 8, 0x1f, 0x20, 0x40, 0x7f, 0x80, 0x9f, 0xa0, 0xc0, 0xff}
}

func TestB3ParseOfManyTexts(t *testing.T) {
	for _, a := range bytesOf() {
		for _, b := range bytesOf() {
			for _, c := range bytesOf() {
				for _, d := range bytesOf() {
					parsesBack(t, string([]byte{a, b, c, d}))
				}
			}
		}
	}
}

// parsesBack holds a text of four bytes against what Print tells.
func parsesBack(t *testing.T, s string) {
	n := int(s[0])*16777216 + int(s[1])*65536 + int(s[2])*256 + int(s[3])
	want := api.Ident{N: n}
	if n >= two31 {
		want = api.Ident{Ext: true, N: n - two31}
	}
	fault := api.OK
	if !right(want) {
		want, fault = api.Ident{}, api.ErrForm
	}
	i, e := ident.Parse(s)
	if i != want || e != fault {
		t.Errorf("%q: %v, %d, not %v, %d", s, i, e, want, fault)
	}
	if again, f := ident.Print(i); e == api.OK && (again != s || f != api.OK) {
		t.Errorf("%q: printed %q, %d", s, again, f)
	}
}

func TestB4Fits(t *testing.T) {
	for _, ext := range []bool{false, true} {
		for _, code := range numbers() {
			for _, mask := range numbers() {
				want := inside(ext, code) && inside(ext, mask)
				if got := ident.Fits(api.Filter{Ext: ext, Code: code, Mask: mask}); got != want {
					t.Errorf("%t %d %d: %t", ext, code, mask, got)
				}
			}
		}
	}
}

func TestB4Match(t *testing.T) {
	for _, x := range []struct {
		f    api.Filter
		i    api.Ident
		want bool
	}{
		{api.Filter{Code: 5, Mask: 2047}, api.Ident{N: 5}, true},
		{api.Filter{Code: 5, Mask: 2047}, api.Ident{N: 4}, false},
		{api.Filter{Code: 5, Mask: 2047}, api.Ident{N: 1029}, false},
		{api.Filter{Code: 5, Mask: 2046}, api.Ident{N: 4}, true},
		{api.Filter{Code: 8, Mask: 12}, api.Ident{N: 9}, true},
		{api.Filter{Code: 8, Mask: 12}, api.Ident{N: 12}, false},
		{api.Filter{Code: 8, Mask: 12}, api.Ident{N: 0}, false},
		{api.Filter{}, api.Ident{N: 2047}, true},
		{api.Filter{Code: 2047}, api.Ident{N: 0}, true},
		{api.Filter{Code: 5, Mask: 2047}, api.Ident{Ext: true, N: 5}, false},
		{api.Filter{Ext: true, Code: 5, Mask: 2047}, api.Ident{N: 5}, false},
		{api.Filter{}, api.Ident{Ext: true}, false},
		{api.Filter{Ext: true}, api.Ident{}, false},
		{api.Filter{Ext: true}, api.Ident{Ext: true, N: two29 - 1}, true},
		{api.Filter{Ext: true, Code: two29 - 1, Mask: two29 - 1}, api.Ident{Ext: true, N: two29 - 1}, true},
		{api.Filter{Ext: true, Code: two29 - 1, Mask: two29 - 1}, api.Ident{Ext: true, N: two29 - 2}, false},
		{api.Filter{Ext: true, Code: 1 << 28, Mask: 1 << 28}, api.Ident{Ext: true, N: 1<<28 + 5}, true},
		{api.Filter{Ext: true, Code: 1 << 28, Mask: 1 << 28}, api.Ident{Ext: true, N: 5}, false},
		{api.Filter{Code: 2048}, api.Ident{N: 0}, false},
		{api.Filter{Code: 2048, Mask: 2047}, api.Ident{N: 0}, false},
		{api.Filter{Code: -1}, api.Ident{N: 0}, false},
		{api.Filter{Mask: 2048}, api.Ident{N: 0}, false},
		{api.Filter{Mask: -1}, api.Ident{N: 0}, false},
		{api.Filter{Ext: true, Code: two29}, api.Ident{Ext: true}, false},
		{api.Filter{Ext: true, Mask: two29}, api.Ident{Ext: true}, false},
		{api.Filter{}, api.Ident{N: 2048}, false},
		{api.Filter{}, api.Ident{N: -1}, false},
		{api.Filter{Ext: true}, api.Ident{Ext: true, N: two29}, false},
		{api.Filter{Ext: true}, api.Ident{Ext: true, N: -1}, false},
	} {
		if got := ident.Match(x.f, x.i); got != x.want {
			t.Errorf("%v %v: %t", x.f, x.i, got)
		}
	}
}

func TestB4MatchOfAllNumbers(t *testing.T) {
	for _, ext := range []bool{false, true} {
		for _, code := range numbers() {
			for _, mask := range numbers() {
				f := api.Filter{Ext: ext, Code: code, Mask: mask}
				for _, i := range idents() {
					if got := ident.Match(f, i); got != lets(f, i) {
						t.Errorf("%v %v: %t", f, i, got)
					}
				}
			}
		}
	}
}

func TestB4Any(t *testing.T) {
	five := api.Filter{Code: 5, Mask: 2047}
	six := api.Filter{Code: 6, Mask: 2047}
	wide := api.Filter{Ext: true}
	wrong := api.Filter{Code: -1}
	for n, x := range []struct {
		i    api.Ident
		l    []api.Filter
		want bool
	}{
		{api.Ident{N: 5}, nil, false},
		{api.Ident{N: 5}, []api.Filter{}, false},
		{api.Ident{N: 5}, []api.Filter{five}, true},
		{api.Ident{N: 5}, []api.Filter{six}, false},
		{api.Ident{N: 5}, []api.Filter{five, six, wide}, true},
		{api.Ident{N: 5}, []api.Filter{six, five, wide}, true},
		{api.Ident{N: 5}, []api.Filter{six, wide, five}, true},
		{api.Ident{N: 5}, []api.Filter{wrong, five}, true},
		{api.Ident{N: 5}, []api.Filter{five, wrong}, true},
		{api.Ident{N: 5}, []api.Filter{wrong, six, wide}, false},
		{api.Ident{Ext: true, N: 5}, []api.Filter{five, wide}, true},
		{api.Ident{N: 2048}, []api.Filter{{}, wide}, false},
		{api.Ident{Ext: true, N: -1}, []api.Filter{{}, wide}, false},
	} {
		if got := ident.Any(x.i, x.l...); got != x.want {
			t.Errorf("%d: %t", n, got)
		}
	}
	if ident.Any(api.Ident{N: 5}) || !ident.Any(api.Ident{N: 5}, six, five) {
		t.Error("one by one")
	}
}

func TestB5AtUndoesKeyAndParsePrint(t *testing.T) {
	check := func(i api.Ident) {
		k, e := ident.Key(i)
		back, f := ident.At(k)
		if back != i || e != api.OK || f != api.OK {
			t.Errorf("%v: key %d, %d, and back %v, %d", i, k, e, back, f)
		}
		s, e := ident.Print(i)
		back, f = ident.Parse(s)
		if back != i || len(s) != 4 || e != api.OK || f != api.OK {
			t.Errorf("%v: text %q, %d, and back %v, %d", i, s, e, back, f)
		}
	}
	for n := range 2048 {
		check(api.Ident{N: n})
	}
	for n := 0; n < two29; n += 1021 {
		check(api.Ident{Ext: true, N: n})
	}
	for _, i := range rightIdents() {
		check(i)
	}
}

func TestB5OneIsLess(t *testing.T) {
	l := rightIdents()
	for _, a := range l {
		for _, b := range l {
			if (ident.Less(a, b) || ident.Less(b, a)) != (a != b) || ident.Less(a, b) && ident.Less(b, a) {
				t.Errorf("%v %v", a, b)
			}
		}
	}
	sort.Slice(l, func(i, k int) bool { return ident.Less(l[i], l[k]) })
	for i := 1; i < len(l); i++ {
		if key(l[i-1]) >= key(l[i]) {
			t.Errorf("%v ahead of %v", l[i-1], l[i])
		}
	}
}

func TestB5ShortGoesAheadOfWideOfItsBase(t *testing.T) {
	for n := range 2048 {
		short := api.Ident{N: n}
		for _, rest := range []int{0, 1, 77, two18 - 1} {
			wide := api.Ident{Ext: true, N: n*two18 + rest}
			if !ident.Less(short, wide) || ident.Less(wide, short) {
				t.Errorf("%v %v", short, wide)
			}
			next := api.Ident{N: n + 1}
			if ident.Less(wide, next) != (n < 2047) {
				t.Errorf("%v %v", wide, next)
			}
		}
	}
}

func TestB5BitsThatAreNotInTheMask(t *testing.T) {
	for _, f := range []api.Filter{
		{Code: 5, Mask: 7}, {Code: 1024, Mask: 1030}, {Mask: 0}, {Code: 2047, Mask: 2047},
		{Ext: true, Code: 5, Mask: 7}, {Ext: true, Code: 1 << 28, Mask: 1<<28 + 2}, {Ext: true, Mask: two29 - 1},
	} {
		for _, i := range rightIdents() {
			want := ident.Match(f, i)
			for bit := 1; bit <= top(f.Ext); bit *= 2 {
				if f.Mask&bit != 0 {
					continue
				}
				g, k := f, i
				g.Code ^= bit
				k.N ^= bit
				if ident.Match(g, i) != want || right(k) && ident.Match(f, k) != want {
					t.Errorf("%v %v: bit %d", f, i, bit)
				}
			}
		}
	}
}

// R1, R3, R4: at all arguments calls end, answer the same again, and write into nothing that was handed in, nor behind it.
func TestRulesHoldAtAllArguments(t *testing.T) {
	for _, i := range idents() {
		k, e := ident.Key(i)
		s, f := ident.Print(i)
		again, g := ident.Key(i)
		printed, h := ident.Print(i)
		if k != again || e != g || s != printed || f != h || e != f {
			t.Errorf("%v: %d, %q, and then %d, %q", i, k, s, again, printed)
		}
		all := []api.Filter{{Code: -1}, {Code: 5, Mask: 7}, {Ext: true}, {Code: 9, Mask: 9}}
		before := slices.Clone(all)
		if ident.Any(i, all[:2]...) != ident.Any(i, all[:2]...) || !slices.Equal(all, before) {
			t.Errorf("%v: %v", i, all)
		}
	}
}
