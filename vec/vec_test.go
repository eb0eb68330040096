package vec_test

import (
	"math"
	"slices"
	"testing"

	"omnibus/vec"
)

// vectors are ordinary ones, the edges, and numbers that count as what they leave.
func vectors() []int {
	return []int{
		0, 1, 2, 3, 7, 9, 255, 256, 0xf0f, 0x5555, 0xaaaa, 32767, 32768, 32769, 65534, 65535,
		65536, 65537, 65536 + 9, 2*65536 - 1, 2 * 65536, 1<<31 + 5, 1<<32 - 1, 1 << 32, 1<<62 + 9,
		-1, -2, -9, -32768, -32769, -65535, -65536, -65537, -1 << 40,
		math.MaxInt, math.MaxInt - 1, math.MinInt, math.MinInt + 9,
	}
}

// places are nodes, and numbers that are none.
func places() []int {
	l := []int{
		-1, -2, -15, -16, -17, -64, 16, 17, 18, 31, 32, 63, 64, 65, 128, 255, 256, 65535, 65536,
		1 << 32, 1<<32 + 3, -1 << 32, math.MaxInt, math.MinInt, math.MinInt + 3,
	}
	for n := range 16 {
		l = append(l, n)
	}
	return l
}

// rest is what v leaves, divided by 65536, not below 0.
func rest(v int) int { return (v%65536 + 65536) % 65536 }

// power is 2 to n, of a node.
func power(n int) int {
	p := 1
	for range n {
		p *= 2
	}
	return p
}

func isNode(n int) bool { return n >= 0 && n <= 15 }

// has is C1's, by its words.
func has(v, n int) bool { return isNode(n) && rest(v)/power(n)%2 == 1 }

// listed are a vector's nodes, by C2's words.
func listed(v int) []int {
	var l []int
	for n := range 16 {
		if has(v, n) {
			l = append(l, n)
		}
	}
	return l
}

// most is C3's, by its words.
func most(v, n int) bool {
	below := 0
	for _, node := range listed(v) {
		if node < n {
			below++
		}
	}
	return n >= 1 && n <= 16 && below > n-below
}

func TestC1All(t *testing.T) {
	for n, want := range map[int]int{
		-1: 0, 0: 0, 1: 1, 2: 3, 3: 7, 5: 31, 8: 255, 15: 32767, 16: 65535, 17: 65535, 18: 65535,
		63: 65535, 64: 65535, 65: 65535, 65536: 65535, 1 << 40: 65535, -16: 0, -17: 0, -64: 0,
		math.MaxInt: 65535, math.MinInt: 0, math.MinInt + 1: 0,
	} {
		if got := vec.All(n); got != want {
			t.Errorf("%d: %d, not %d", n, got, want)
		}
	}
}

func TestC1AllHasWhatIsBelow(t *testing.T) {
	for n := -20; n <= 40; n++ {
		for node := range 16 {
			if got := vec.Has(vec.All(n), node); got != (node < n) {
				t.Errorf("%d %d: %t", n, node, got)
			}
		}
	}
}

func TestC1HasWithWithout(t *testing.T) {
	for _, x := range []struct {
		v, n          int
		has           bool
		with, without int
	}{
		{0, 0, false, 1, 0}, {0, 15, false, 32768, 0}, {0, 16, false, 0, 0}, {0, -1, false, 0, 0},
		{9, 0, true, 9, 8}, {9, 1, false, 11, 9}, {9, 3, true, 9, 1}, {9, 15, false, 32777, 9},
		{9, 16, false, 9, 9}, {9, -1, false, 9, 9}, {9, math.MaxInt, false, 9, 9}, {9, math.MinInt, false, 9, 9},
		{65535, 0, true, 65535, 65534}, {65535, 15, true, 65535, 32767}, {65535, 16, false, 65535, 65535},
		{65536, 0, false, 1, 0}, {65536, 16, false, 0, 0}, {65536, -1, false, 0, 0},
		{65536 + 9, 3, true, 9, 1}, {65536 + 9, 16, false, 9, 9}, {65536 + 9, -1, false, 9, 9},
		{-1, 15, true, 65535, 32767}, {-1, 16, false, 65535, 65535}, {-1, -1, false, 65535, 65535},
		{-65536, 2, false, 4, 0}, {-65536, 16, false, 0, 0}, {-65536, 63, false, 0, 0},
	} {
		has, with, without := vec.Has(x.v, x.n), vec.With(x.v, x.n), vec.Without(x.v, x.n)
		if has != x.has || with != x.with || without != x.without {
			t.Errorf("%d %d: %t, %d, %d", x.v, x.n, has, with, without)
		}
	}
}

func TestC1OfAllNumbers(t *testing.T) {
	for _, v := range vectors() {
		for _, n := range places() {
			with, without := rest(v), rest(v)
			if isNode(n) && !has(v, n) {
				with += power(n)
			}
			if has(v, n) {
				without -= power(n)
			}
			if got := vec.Has(v, n); got != has(v, n) {
				t.Errorf("Has %d %d: %t", v, n, got)
			}
			if got := vec.With(v, n); got != with {
				t.Errorf("With %d %d: %d, not %d", v, n, got, with)
			}
			if got := vec.Without(v, n); got != without {
				t.Errorf("Without %d %d: %d, not %d", v, n, got, without)
			}
		}
	}
}

func TestC2CountAndList(t *testing.T) {
	for v, want := range map[int][]int{
		0: nil, 1: {0}, 2: {1}, 9: {0, 3}, 32768: {15}, 32769: {0, 15},
		65535: {0, 1, 2, 3, 4, 5, 6, 7, 8, 9, 10, 11, 12, 13, 14, 15},
		65536: nil, 65537: {0}, 65536 + 9: {0, 3}, 1 << 32: nil, 1<<62 + 9: {0, 3},
		-1:     {0, 1, 2, 3, 4, 5, 6, 7, 8, 9, 10, 11, 12, 13, 14, 15},
		-32768: {15}, -65536: nil, -65535: {0}, math.MinInt: nil, math.MinInt + 9: {0, 3},
	} {
		if got := vec.List(v); !slices.Equal(got, want) {
			t.Errorf("List %d: %v, not %v", v, got, want)
		}
		if got := vec.Count(v); got != len(want) {
			t.Errorf("Count %d: %d, not %d", v, got, len(want))
		}
	}
}

func TestC2OfAllVectors(t *testing.T) {
	check := func(v int) {
		want := listed(v)
		if got := vec.List(v); !slices.Equal(got, want) {
			t.Errorf("List %d: %v, not %v", v, got, want)
		}
		if got := vec.Count(v); got != len(want) {
			t.Errorf("Count %d: %d, not %d", v, got, len(want))
		}
	}
	for v := -70000; v < 140000; v++ {
		check(v)
	}
	for _, v := range vectors() {
		check(v)
	}
}

func TestC2Of(t *testing.T) {
	for _, x := range []struct {
		l    []int
		want int
	}{
		{nil, 0},
		{[]int{}, 0},
		{[]int{0}, 1},
		{[]int{15}, 32768},
		{[]int{0, 3}, 9},
		{[]int{3, 0}, 9},
		{[]int{3, 3}, 8},
		{[]int{3, 0, 3, 0, 3}, 9},
		{[]int{16}, 0},
		{[]int{-1}, 0},
		{[]int{-1, -1, 16, 16}, 0},
		{[]int{3, 0, 3, 16, -1, 15}, 32777},
		{[]int{16, 3, -1, 0}, 9},
		{[]int{64, 67, 65536, -16, -13, 2}, 4},
		{[]int{math.MaxInt, 1, math.MinInt}, 2},
		{[]int{15, 14, 13, 12, 11, 10, 9, 8, 7, 6, 5, 4, 3, 2, 1, 0}, 65535},
		{places(), 65535},
	} {
		if got := vec.Of(x.l...); got != x.want {
			t.Errorf("%v: %d, not %d", x.l, got, x.want)
		}
	}
	if vec.Of() != 0 || vec.Of(0, 3) != 9 {
		t.Error("one by one")
	}
	for _, n := range places() {
		want := 0
		if isNode(n) {
			want = power(n)
		}
		if got := vec.Of(n); got != want {
			t.Errorf("%d: %d, not %d", n, got, want)
		}
	}
}

func TestC3Most(t *testing.T) {
	for _, x := range []struct {
		v, n int
		want bool
	}{
		{0, 1, false}, {1, 1, true}, {2, 1, false}, {3, 1, true}, {65534, 1, false},
		{1, 2, false}, {2, 2, false}, {3, 2, true}, {65532, 2, false}, {65533, 2, false},
		{1, 3, false}, {3, 3, true}, {5, 3, true}, {12, 3, false},
		{3, 4, false}, {7, 4, true}, {13, 4, true}, {9, 4, false}, {0xfff1, 4, false},
		{0xf0f, 8, false}, {0xf1f, 8, true}, {0xffff, 8, true},
		{127, 15, false}, {255, 15, true}, {127 + 32768, 15, false},
		{255, 16, false}, {255 + 32768, 16, true}, {511, 16, true}, {0xff00, 16, false}, {0xff80, 16, true},
		{65535, 16, true}, {65535, 0, false}, {65535, 17, false}, {65535, 18, false}, {65535, -1, false},
		{65535, 32, false}, {65535, math.MaxInt, false}, {65535, math.MinInt, false},
		{65536 + 3, 3, true}, {65536 + 1, 2, false}, {65536, 1, false}, {-1, 16, true}, {-1, 1, true}, {-2, 1, false}, {-65536, 1, false},
		{0, 0, false}, {0, -1, false}, {0, 16, false},
	} {
		if got := vec.Most(x.v, x.n); got != x.want {
			t.Errorf("%d %d: %t", x.v, x.n, got)
		}
	}
}

func TestC3MostOfAllNumbers(t *testing.T) {
	for _, v := range vectors() {
		for _, n := range places() {
			if got := vec.Most(v, n); got != most(v, n) {
				t.Errorf("%d %d: %t", v, n, got)
			}
		}
	}
	for v := 0; v < 65536; v += 7 {
		for n := -1; n <= 17; n++ {
			if got := vec.Most(v, n); got != most(v, n) {
				t.Errorf("%d %d: %t", v, n, got)
			}
		}
	}
}

func TestC3HalfIsNotMost(t *testing.T) {
	for n := 1; n <= 16; n++ {
		half := vec.All(n / 2)
		above := vec.All(16) - vec.All(n)
		if vec.Most(half, n) || vec.Most(half+above, n) {
			t.Errorf("%d: half of it", n)
		}
		if !vec.Most(vec.All(n/2+1), n) {
			t.Errorf("%d: one more than half of it", n)
		}
	}
}

func TestC4OfUndoesList(t *testing.T) {
	for v := range 65536 {
		if got := vec.Of(vec.List(v)...); got != v {
			t.Errorf("%d: %d", v, got)
		}
	}
	for _, v := range vectors() {
		if got := vec.Of(vec.List(v)...); got != rest(v) {
			t.Errorf("%d: %d, not %d", v, got, rest(v))
		}
	}
}

func TestC4TwoMostMeet(t *testing.T) {
	for n := 1; n <= 7; n++ {
		for v := range 256 {
			for w := range 256 {
				if vec.Most(v, n) && vec.Most(w, n) && vec.Count(v&w&vec.All(n)) == 0 {
					t.Errorf("%d: %d and %d", n, v, w)
				}
			}
		}
	}
	// Two vectors that do not meet below n are each within what the other one leaves there.
	for v := range 65536 {
		for n := 1; n <= 16; n++ {
			if vec.Most(v, n) && vec.Most(-1-v, n) {
				t.Errorf("%d: %d and what it leaves", n, v)
			}
		}
	}
}

// R1, R4: at all arguments calls end, answer a vector, and the same again.
func TestRulesHoldAtAllArguments(t *testing.T) {
	for _, v := range vectors() {
		for _, n := range places() {
			for _, got := range []int{vec.All(n), vec.With(v, n), vec.Without(v, n), vec.Of(v, n)} {
				if got < 0 || got > 65535 {
					t.Errorf("%d %d: %d", v, n, got)
				}
			}
			if vec.Has(v, n) != vec.Has(v, n) || vec.Most(v, n) != vec.Most(v, n) || vec.With(v, n) != vec.With(v, n) {
				t.Errorf("%d %d: another answer", v, n)
			}
		}
	}
}

// R3: what is handed in stays as it was, what stands behind it too, and what comes out is its owner's.
func TestWhatIsHandedInStays(t *testing.T) {
	all := []int{3, 3, -1, 16, 65536, 15, 7, 9}
	before := slices.Clone(all)
	if vec.Of(all[:6]...) != 32776 || !slices.Equal(all, before) {
		t.Errorf("%v", all)
	}
	for _, v := range vectors() {
		want := listed(v)
		first := vec.List(v)
		second := vec.List(v)
		for i := range first {
			first[i] = -5
		}
		first = append(first, -6)
		for i := range first[:cap(first)] {
			first[:cap(first)][i] = -7
		}
		if !slices.Equal(second, want) || !slices.Equal(vec.List(v), want) {
			t.Errorf("%d: %v, %v, not %v", v, second, vec.List(v), want)
		}
	}
}
