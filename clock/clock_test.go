package clock_test

import (
	"math"
	"math/big"
	"math/rand"
	"slices"
	"testing"

	"omnibus/api"
	"omnibus/clock"
)

const (
	two20 = 1 << 20
	two30 = 1 << 30
	two40 = 1 << 40
)

// far are numbers at which sums or products may go round.
func far() []int {
	return []int{math.MinInt, math.MinInt + 1, math.MinInt / 1000, -1 << 32, 1 << 32, 1<<32 + 1, math.MaxInt / 1000, math.MaxInt - 1, math.MaxInt}
}

// around are numbers, and the ones next to each.
func around(l ...int) []int {
	var all []int
	for _, n := range l {
		all = append(all, n-1, n, n+1)
	}
	return all
}

// down is a number divided by one above 0, rounded down, as great as they are.
func down(n, by *big.Int) int { return int(new(big.Int).Div(n, by).Int64()) }

func bigs(n int) *big.Int { return big.NewInt(int64(n)) }

func elapses(t *testing.T, ticks, drift, want int, fault api.Errno) {
	t.Helper()
	if n, e := clock.Elapsed(ticks, drift); n != want || e != fault {
		t.Errorf("%d by %d: %d, %d, not %d, %d", ticks, drift, n, e, want, fault)
	}
}

func TestJ1Elapsed(t *testing.T) {
	for _, x := range []struct{ ticks, drift, want int }{
		{1000000, -3, 999997}, {1000000, 3, 1000003}, {1000000, 1000, 1001000}, {1000000, -1000, 999000}, {1000000, 0, 1000000},
		{0, -1000, 0}, {0, -1, 0}, {0, 0, 0}, {0, 1, 0}, {0, 1000, 0},
		{1, -1000, 0}, {1, -1, 0}, {1, 0, 1}, {1, 1, 1}, {1, 1000, 1},
		{999, 1000, 999}, {1000, 1000, 1001}, {1001, 1000, 1002}, {1999, 1000, 2000}, {2000, 1000, 2002},
		{999, -1000, 998}, {1000, -1000, 999}, {1001, -1000, 999}, {2000, -1000, 1998}, {2001, -1000, 1998},
		{999999, 1, 999999}, {1000000, 1, 1000001}, {1000001, 1, 1000002},
		{999999, -1, 999998}, {1000000, -1, 999999}, {1000001, -1, 999999}, {2000000, -1, 1999998}, {2000001, -1, 1999998},
		{two40, -1000, two40 - 1099511628}, {two40, -1, two40 - 1099512}, {two40, 0, two40}, {two40, 1, two40 + 1099511}, {two40, 1000, two40 + 1099511627},
		{two40 - 1, 0, two40 - 1},
	} {
		elapses(t, x.ticks, x.drift, x.want, api.OK)
	}
}

func TestJ1ElapsedOfWhatMayNotBe(t *testing.T) {
	drifts := append([]int{-1001, -1000, -1, 0, 1, 1000, 1001}, far()...)
	for _, ticks := range append([]int{-1, -2, -1000000, -two40, two40 + 1, two40 + 2, 2 * two40}, far()...) {
		if ticks >= 0 && ticks <= two40 {
			continue
		}
		for _, drift := range drifts {
			elapses(t, ticks, drift, 0, api.ErrArg)
		}
	}
	for _, drift := range append([]int{-1001, 1001, -1002, 1002, -1000000, 1000000, two40, -two40}, far()...) {
		for _, ticks := range []int{0, 1, 5, 1000, 1000000, two40 - 1, two40} {
			elapses(t, ticks, drift, 0, api.ErrArg)
		}
	}
}

// elapsed is J1's, by its words.
func elapsed(ticks, drift int) (int, api.Errno) {
	if ticks < 0 || ticks > two40 || drift < -1000 || drift > 1000 {
		return 0, api.ErrArg
	}
	return ticks + down(new(big.Int).Mul(bigs(ticks), bigs(drift)), bigs(1000000)), api.OK
}

func TestJ1ElapsedByAllDrifts(t *testing.T) {
	chance := rand.New(rand.NewSource(10))
	all := append(around(0, 5, 999, 1000, 1001, 500000, 999999, 1000000, 2000000, two40/1000, two40), far()...)
	for range 200 {
		all = append(all, chance.Intn(two40+1), chance.Intn(3000000))
	}
	for drift := -1003; drift <= 1003; drift++ {
		for _, ticks := range all {
			want, fault := elapsed(ticks, drift)
			elapses(t, ticks, drift, want, fault)
		}
	}
	for ticks := range 4100 {
		for _, drift := range []int{-1000, -999, -500, -1, 0, 1, 500, 999, 1000} {
			want, fault := elapsed(ticks, drift)
			elapses(t, ticks, drift, want, fault)
		}
	}
}

func isIn(t *testing.T, time, size, great, rest int, fault api.Errno) {
	t.Helper()
	if n, far, e := clock.Macro(time, size); n != great || far != rest || e != fault {
		t.Errorf("%d by %d: %d, %d, %d, not %d, %d, %d", time, size, n, far, e, great, rest, fault)
	}
}

func TestJ1Macro(t *testing.T) {
	for _, x := range []struct{ time, size, great, rest int }{
		{25, 10, 2, 5}, {20, 10, 2, 0}, {29, 10, 2, 9}, {9, 10, 0, 9}, {10, 10, 1, 0},
		{-1, 10, -1, 9}, {-9, 10, -1, 1}, {-10, 10, -1, 0}, {-11, 10, -2, 9}, {-20, 10, -2, 0}, {-25, 10, -3, 5}, {-30, 10, -3, 0},
		{-1, 1, -1, 0}, {0, 1, 0, 0}, {1, 1, 1, 0}, {-7, 1, -7, 0}, {7, 1, 7, 0}, {two40, 1, two40, 0}, {-two40, 1, -two40, 0},
		{-1, 2, -1, 1}, {-2, 2, -1, 0}, {-3, 2, -2, 1},
		{-1, two20, -1, two20 - 1}, {0, two20, 0, 0}, {1, two20, 0, 1}, {two20 - 1, two20, 0, two20 - 1}, {two20, two20, 1, 0}, {-two20, two20, -1, 0}, {-two20 - 1, two20, -2, two20 - 1},
		{two40, two20, two20, 0}, {two40 - 1, two20, two20 - 1, two20 - 1}, {-two40, two20, -two20, 0}, {1 - two40, two20, -two20, 1},
		{two40, 3, 366503875925, 1}, {-two40, 3, -366503875926, 2}, {-two40, 10, -109951162778, 4},
	} {
		isIn(t, x.time, x.size, x.great, x.rest, api.OK)
	}
}

func TestJ1MacroOfWhatMayNotBe(t *testing.T) {
	for _, time := range append([]int{-two40 - 1, two40 + 1, -two40 - 2, two40 + 2, 2 * two40}, far()...) {
		if time >= -two40 && time <= two40 {
			continue
		}
		for _, size := range append([]int{-1, 0, 1, 2, 10, two20, two20 + 1}, far()...) {
			isIn(t, time, size, 0, 0, api.ErrArg)
		}
	}
	for _, size := range append([]int{0, -1, -2, -10, -two20, two20 + 1, two20 + 2, two30, two40}, far()...) {
		for _, time := range []int{-two40, -two20, -25, -1, 0, 1, 25, two20, two40} {
			isIn(t, time, size, 0, 0, api.ErrArg)
		}
	}
}

// macro is J1's, by its words.
func macro(time, size int) (int, int, api.Errno) {
	if time < -two40 || time > two40 || size < 1 || size > two20 {
		return 0, 0, api.ErrArg
	}
	great := down(bigs(time), bigs(size))
	return great, time - great*size, api.OK
}

func TestJ1MacroOfManyTimes(t *testing.T) {
	chance := rand.New(rand.NewSource(11))
	sizes := append(around(0, 3, 10, 64, 1000, two20/2, two20), far()...)
	times := append(around(-two40, -two40/2, -two20, 0, two20, two40/2, two40), far()...)
	for range 50 {
		sizes = append(sizes, 1+chance.Intn(two20))
		times = append(times, chance.Intn(2*two40+1)-two40)
	}
	for _, size := range sizes {
		all := times
		if size > 0 && size <= two20 {
			all = append(slices.Clone(times), around(-5*size, -size, size, 5*size, -two40/size*size, two40/size*size)...)
		}
		for _, time := range all {
			great, rest, fault := macro(time, size)
			isIn(t, time, size, great, rest, fault)
		}
	}
	for time := -500; time <= 500; time++ {
		for size := -1; size <= 60; size++ {
			great, rest, fault := macro(time, size)
			isIn(t, time, size, great, rest, fault)
		}
	}
}

// middle is J2's, by its words.
func middle(drop int, devs []int) (int, api.Errno) {
	wrong := func(dev int) bool { return dev < -two30 || dev > two30 }
	switch {
	case drop < 0 || drop > 7 || slices.ContainsFunc(devs, wrong):
		return 0, api.ErrArg
	case len(devs) > 64:
		return 0, api.ErrLong
	case len(devs) <= 2*drop:
		return 0, api.ErrShort
	}
	left := slices.Sorted(slices.Values(devs))[drop : len(devs)-drop]
	return down(bigs(left[0]+left[len(left)-1]), bigs(2)), api.OK
}

func hasMiddle(t *testing.T, drop int, devs []int, want int, fault api.Errno) {
	t.Helper()
	if n, e := clock.Middle(drop, devs...); n != want || e != fault {
		t.Errorf("%v without %d: %d, %d, not %d, %d", devs, drop, n, e, want, fault)
	}
}

// same is so many devs that are alike.
func same(many, dev int) []int { return slices.Repeat([]int{dev}, many) }

func TestJ2Middle(t *testing.T) {
	for _, x := range []struct {
		drop int
		devs []int
		want int
	}{
		{1, []int{-50, 2, 4, 90}, 3}, {0, []int{-50, 2, 4, 90}, 20}, {1, []int{90, 4, 2, -50}, 3}, {1, []int{4, -50, 90, 2}, 3},
		{0, []int{5}, 5}, {0, []int{-5}, -5}, {0, []int{0}, 0}, {0, []int{5, 2}, 3}, {0, []int{2, 5, 100, 3}, 51},
		// Sums that are odd, and below 0.
		{0, []int{-5, 2}, -2}, {0, []int{-1, 0}, -1}, {0, []int{-3, 0}, -2}, {0, []int{-4, -3}, -4}, {0, []int{1, -2}, -1}, {1, []int{-9, -4, -3, 9}, -4}, {0, []int{-two30, -two30 + 1}, -two30},
		{0, []int{-4, -2}, -3}, {0, []int{0, 1}, 0}, {0, []int{two30, two30 - 1}, two30 - 1},
		{1, []int{9, -9, 1}, 1}, {1, []int{1, 2, 3}, 2}, {1, []int{7, 7, 7}, 7}, {1, []int{7, 7, 7, 1}, 7}, {1, []int{1, 1, 7, 7}, 4}, {2, []int{7, 7, 7, 7, 1}, 7},
		{2, []int{1, 2, 3, 4, 5, 6}, 3}, {2, []int{6, 5, 4, 3, 2, 1}, 3}, {2, []int{1, 2, 3, 40, 50, 60, 70}, 26},
		{0, []int{two30}, two30}, {0, []int{-two30}, -two30}, {0, []int{two30, two30}, two30}, {0, []int{-two30, -two30}, -two30}, {0, []int{-two30, two30}, 0}, {0, []int{-two30, two30 - 1}, -1},
		{1, []int{two30, -two30, 5}, 5}, {1, []int{two30, two30, 5}, two30}, {1, []int{-two30, -two30, 5}, -two30},
		{7, []int{1, 2, 3, 4, 5, 6, 7, 8, 9, 10, 11, 12, 13, 14, 15}, 8}, {7, []int{16, 15, 14, 13, 12, 11, 10, 9, 8, 7, 6, 5, 4, 3, 2, 1}, 8},
		{7, same(15, -3), -3}, {0, same(64, two30), two30}, {7, same(64, -two30), -two30}, {7, append(same(57, 3), same(7, 99)...), 3}, {7, append(same(56, 3), same(8, 99)...), 51},
	} {
		hasMiddle(t, x.drop, x.devs, x.want, api.OK)
	}
}

func TestJ2MiddleByHowManyThereAre(t *testing.T) {
	for drop := -1; drop <= 8; drop++ {
		for many := range 130 {
			fault := api.OK
			switch {
			case drop < 0 || drop > 7:
				fault = api.ErrArg
			case many > 64:
				fault = api.ErrLong
			case many <= 2*drop:
				fault = api.ErrShort
			}
			want := 0
			if fault == api.OK {
				want = 9
			}
			hasMiddle(t, drop, same(many, 9), want, fault)
		}
	}
	hasMiddle(t, 0, nil, 0, api.ErrShort)
	hasMiddle(t, 0, []int{}, 0, api.ErrShort)
	hasMiddle(t, 1, nil, 0, api.ErrShort)
	hasMiddle(t, 7, nil, 0, api.ErrShort)
	hasMiddle(t, 1, []int{3, 3}, 0, api.ErrShort)
	hasMiddle(t, 7, same(100000, 3), 0, api.ErrLong)
}

// One dev that may not be, at each place, among fewer than may be, as many and more.
func TestJ2MiddleOfWhatMayNotBe(t *testing.T) {
	beyond := []int{two30 + 1, -two30 - 1, two30 + 2, 2 * two30, -2 * two30, two40, math.MaxInt, math.MinInt}
	for _, drop := range []int{-1, 0, 1, 7, 8, math.MaxInt, math.MinInt} {
		for _, many := range []int{1, 2, 3, 14, 15, 16, 17, 63, 64, 65, 66, 100} {
			for place := range many {
				for _, dev := range beyond {
					devs := same(many, 9)
					devs[place] = dev
					hasMiddle(t, drop, devs, 0, api.ErrArg)
				}
			}
		}
	}
	for _, drop := range append([]int{-1, 8, -2, 9, 31, 32, 33, math.MaxInt/2 + 1}, far()...) {
		for _, many := range []int{0, 1, 2, 14, 15, 16, 17, 64, 65, 100} {
			hasMiddle(t, drop, same(many, 9), 0, api.ErrArg)
		}
	}
}

// lists are all of so many numbers from -most to most.
func lists(many, most int) [][]int {
	if many == 0 {
		return [][]int{nil}
	}
	var l [][]int
	for _, ahead := range lists(many-1, most) {
		for n := -most; n <= most; n++ {
			l = append(l, append(slices.Clone(ahead), n))
		}
	}
	return l
}

func TestJ2MiddleOfAllShortLists(t *testing.T) {
	for many := range 7 {
		for _, devs := range lists(many, 2) {
			for drop := -1; drop <= 3; drop++ {
				want, fault := middle(drop, devs)
				hasMiddle(t, drop, devs, want, fault)
			}
		}
	}
}

// some are so many numbers, of ever other kinds: close together, far apart, at the bounds.
func some(chance *rand.Rand, many int) []int {
	far := []int{2, 10, 1000, two20, two30}[chance.Intn(5)]
	var l []int
	for range many {
		n := chance.Intn(2*far+1) - far
		if chance.Intn(9) == 0 {
			n = []int{-two30, two30, -far, far, 0}[chance.Intn(5)]
		}
		l = append(l, n)
	}
	return l
}

func TestJ2MiddleOfManyLists(t *testing.T) {
	chance := rand.New(rand.NewSource(12))
	for range 50000 {
		devs := some(chance, chance.Intn(68))
		if len(devs) > 0 && chance.Intn(20) == 0 {
			devs[chance.Intn(len(devs))] = []int{two30 + 1, -two30 - 1}[chance.Intn(2)]
		}
		drop := chance.Intn(10) - 1
		want, fault := middle(drop, devs)
		hasMiddle(t, drop, devs, want, fault)
	}
}

func isPut(t *testing.T, offset, drop, most int, devs []int, want int) {
	t.Helper()
	if got := clock.Correct(offset, drop, most, devs...); got != want {
		t.Errorf("%d by %v without %d, %d at most: %d, not %d", offset, devs, drop, most, got, want)
	}
}

func TestJ3Correct(t *testing.T) {
	for _, x := range []struct {
		offset, drop, most int
		devs               []int
		want               int
	}{
		{100, 1, 10, []int{-50, 2, 4, 90}, 103}, {-100, 1, 10, []int{-50, 2, 4, 90}, -97}, {0, 1, 10, []int{-50, 2, 4, 90}, 3},
		// The middle is 3, and -3.
		{100, 0, 4, []int{3}, 103}, {100, 0, 3, []int{3}, 103}, {100, 0, 2, []int{3}, 102}, {100, 0, 1, []int{3}, 101}, {100, 0, 0, []int{3}, 100}, {100, 0, -1, []int{3}, 100},
		{100, 0, 4, []int{-3}, 97}, {100, 0, 3, []int{-3}, 97}, {100, 0, 2, []int{-3}, 98}, {100, 0, 1, []int{-3}, 99}, {100, 0, 0, []int{-3}, 100}, {100, 0, -1, []int{-3}, 100},
		{100, 0, -3, []int{3}, 100}, {100, 0, -3, []int{-3}, 100}, {100, 0, math.MinInt, []int{3}, 100}, {100, 0, math.MinInt, []int{-3}, 100}, {100, 0, math.MinInt + 1, []int{3}, 100},
		{100, 0, math.MaxInt, []int{3}, 103}, {100, 0, math.MaxInt, []int{-3}, 97}, {100, 0, two30, []int{two30}, 100 + two30}, {100, 0, two30 - 1, []int{two30}, 99 + two30}, {100, 0, two30 - 1, []int{-two30}, 101 - two30},
		{100, 0, 1, []int{0}, 100}, {100, 0, 0, []int{0}, 100}, {100, 0, 1, []int{1}, 101}, {100, 0, 1, []int{-1}, 99}, {100, 0, 9, []int{-5, 2}, 98},
		// Middle has an error.
		{100, 0, 5, nil, 100}, {100, 1, 5, []int{3, 3}, 100}, {100, -1, 5, []int{3, 3, 3}, 100}, {100, 8, 5, same(17, 3), 100}, {100, 7, 5, same(14, 3), 100}, {100, 0, 5, same(65, 3), 100},
		{100, 0, 5, []int{two30 + 1}, 100}, {100, 0, 5, []int{3, -two30 - 1}, 100}, {100, 1, 5, []int{3, 3, 3, math.MaxInt}, 100}, {100, 0, -1, nil, 100},
		{100, 7, 5, same(15, 3), 103}, {100, 0, 5, same(64, 3), 103},
	} {
		isPut(t, x.offset, x.drop, x.most, x.devs, x.want)
	}
}

func TestJ3CorrectOfTheLeastAndTheGreatestOffsets(t *testing.T) {
	for _, x := range []struct{ offset, most, dev, want int }{
		{math.MaxInt, 5, -3, math.MaxInt - 3}, {math.MaxInt, 5, 0, math.MaxInt}, {math.MaxInt, 0, 3, math.MaxInt}, {math.MaxInt, -1, 3, math.MaxInt}, {math.MaxInt - 3, 5, 3, math.MaxInt},
		{math.MinInt, 5, 3, math.MinInt + 3}, {math.MinInt, 5, 0, math.MinInt}, {math.MinInt, 0, -3, math.MinInt}, {math.MinInt, -1, -3, math.MinInt}, {math.MinInt + 3, 5, -3, math.MinInt},
		// They go round.
		{math.MaxInt, 5, 1, math.MinInt}, {math.MaxInt, 5, 3, math.MinInt + 2}, {math.MaxInt, 2, 3, math.MinInt + 1}, {math.MaxInt - 1, math.MaxInt, two30, math.MinInt + two30 - 2},
		{math.MinInt, 5, -1, math.MaxInt}, {math.MinInt, 5, -3, math.MaxInt - 2}, {math.MinInt, 2, -3, math.MaxInt - 1}, {math.MinInt + 1, math.MaxInt, -two30, math.MaxInt - two30 + 2},
	} {
		isPut(t, x.offset, 0, x.most, []int{x.dev}, x.want)
	}
	for _, offset := range far() {
		isPut(t, offset, 0, 5, nil, offset)
		isPut(t, offset, 0, -1, []int{3}, offset)
		isPut(t, offset, 0, 5, []int{two30 + 1}, offset)
		isPut(t, offset, -1, 5, []int{3}, offset)
	}
}

// correct is J3's, by its words: the sum is cut to 64 bits.
func correct(offset, drop, most int, devs []int) int {
	step, e := middle(drop, devs)
	if e != api.OK || most < 0 {
		return offset
	}
	if step > most {
		step = most
	} else if step < -most {
		step = -most
	}
	return int(uint64(offset) + uint64(step))
}

func TestJ3CorrectOfManyLists(t *testing.T) {
	chance := rand.New(rand.NewSource(13))
	for range 4000 {
		devs := some(chance, chance.Intn(67))
		if len(devs) > 0 && chance.Intn(20) == 0 {
			devs[chance.Intn(len(devs))] = []int{two30 + 1, -two30 - 1}[chance.Intn(2)]
		}
		drop := chance.Intn(10) - 1
		step, _ := middle(drop, devs)
		for _, most := range append(around(0, step, -step), math.MinInt, math.MaxInt, chance.Intn(two30)) {
			for _, offset := range []int{0, 7, -7, two30, -two30, chance.Int(), math.MinInt, math.MaxInt} {
				isPut(t, offset, drop, most, devs, correct(offset, drop, most, devs))
			}
		}
	}
}

func areApart(t *testing.T, offsets []int, want int) {
	t.Helper()
	if got := clock.Spread(offsets...); got != want {
		t.Errorf("%v: %d, not %d", offsets, got, want)
	}
}

func TestJ3Spread(t *testing.T) {
	for _, x := range []struct {
		offsets []int
		want    int
	}{
		{nil, 0}, {[]int{}, 0}, {[]int{7}, 0}, {[]int{-7}, 0}, {[]int{0}, 0}, {[]int{7, -3}, 10}, {[]int{-3, 7}, 10}, {[]int{7, -3, 2}, 10}, {[]int{2, 7, -3}, 10},
		{[]int{5, 5}, 0}, {[]int{5, 5, 5}, 0}, {[]int{1, 2}, 1}, {[]int{-2, -1}, 1}, {[]int{5, 9, 7}, 4}, {[]int{-5, -9, -7}, 4}, {[]int{0, 3, 0}, 3}, {[]int{0, -3, 0}, 3},
		{[]int{math.MaxInt}, 0}, {[]int{math.MinInt}, 0}, {[]int{math.MaxInt, math.MaxInt}, 0}, {[]int{math.MinInt, math.MinInt}, 0},
		{[]int{0, math.MaxInt}, math.MaxInt}, {[]int{1, math.MaxInt}, math.MaxInt - 1}, {[]int{math.MinInt, -1}, math.MaxInt}, {[]int{math.MinInt + 1, 0}, math.MaxInt},
		// They go round.
		{[]int{math.MinInt, math.MaxInt}, -1}, {[]int{math.MaxInt, 5, math.MinInt}, -1}, {[]int{math.MinInt, 0}, math.MinInt}, {[]int{-1, math.MaxInt}, math.MinInt}, {[]int{math.MinInt, 3}, math.MinInt + 3},
		{append(same(999, 4), 5), 1}, {append([]int{-9}, same(999, 4)...), 13},
	} {
		areApart(t, x.offsets, x.want)
	}
}

func TestJ3SpreadOfManyLists(t *testing.T) {
	chance := rand.New(rand.NewSource(14))
	for range 20000 {
		offsets := append(some(chance, chance.Intn(70)), chance.Intn(two40)-two40/2)
		if chance.Intn(9) == 0 {
			offsets = append(offsets, far()[chance.Intn(9)])
		}
		chance.Shuffle(len(offsets), func(a, b int) { offsets[a], offsets[b] = offsets[b], offsets[a] })
		rising := slices.Sorted(slices.Values(offsets))
		areApart(t, offsets, int(uint64(rising[len(rising)-1])-uint64(rising[0])))
	}
}

// told is the Middle of right and wrong devs, in another order.
func told(t *testing.T, chance *rand.Rand, drop int, right, wrong []int) int {
	t.Helper()
	devs := slices.Concat(right, wrong)
	chance.Shuffle(len(devs), func(a, b int) { devs[a], devs[b] = devs[b], devs[a] })
	n, e := clock.Middle(drop, devs...)
	if e != api.OK {
		t.Fatalf("%v without %d: %d", devs, drop, e)
	}
	return n
}

// holds asks of two nodes what J4 tells, and answers how far they are apart, and how far they may be.
func holds(t *testing.T, chance *rand.Rand, drop int, right, first, second []int) (int, int) {
	t.Helper()
	least, greatest := slices.Min(right), slices.Max(right)
	a, b := told(t, chance, drop, right, first), told(t, chance, drop, right, second)
	if min(a, b) < least || max(a, b) > greatest {
		t.Errorf("%v, %v and %v, without %d: %d, %d", right, first, second, drop, a, b)
	}
	apart, may := max(a, b)-min(a, b), (greatest-least+1)/2
	if apart > may {
		t.Errorf("%v, %v and %v, without %d: %d, %d are %d apart", right, first, second, drop, a, b, apart)
	}
	return apart, may
}

func TestJ4OfAllShortLists(t *testing.T) {
	chance := rand.New(rand.NewSource(15))
	wrong := append(slices.Concat(lists(0, 0), lists(1, 3)), []int{-two30}, []int{two30})
	most := 0
	for _, many := range []int{3, 4} {
		for _, right := range lists(many, 2) {
			for _, first := range wrong {
				for _, second := range wrong {
					if apart, may := holds(t, chance, 1, right, first, second); apart == may && apart > 0 {
						most++
					}
				}
			}
		}
	}
	if most < 100 {
		t.Errorf("%d times two nodes were as far apart as they may be", most)
	}
}

func TestJ4OfManyLists(t *testing.T) {
	chance := rand.New(rand.NewSource(16))
	for range 30000 {
		drop := chance.Intn(8)
		right := some(chance, 2*drop+1+chance.Intn(64-3*drop))
		first, second := some(chance, chance.Intn(drop+1)), some(chance, chance.Intn(drop+1))
		if chance.Intn(3) == 0 {
			// As far as wrong ones can be, on other sides.
			first, second = same(drop, -two30), same(drop, two30)
		}
		holds(t, chance, drop, right, first, second)
	}
}

// Middle is within the right devs also where these are hardly more than the wrong ones.
func TestJ4IsWithinTheRightDevs(t *testing.T) {
	chance := rand.New(rand.NewSource(17))
	for range 50000 {
		drop := chance.Intn(8)
		wrong := some(chance, chance.Intn(drop+1))
		right := some(chance, 2*drop+1-len(wrong)+chance.Intn(3))
		if n := told(t, chance, drop, right, wrong); n < slices.Min(right) || n > slices.Max(right) {
			t.Errorf("%v and %v without %d: %d", right, wrong, drop, n)
		}
	}
}

// orders are all orders of a list.
func orders(l []int) [][]int {
	if len(l) == 0 {
		return [][]int{nil}
	}
	var all [][]int
	for k, n := range l {
		rest := slices.Delete(slices.Clone(l), k, k+1)
		for _, o := range orders(rest) {
			all = append(all, append(o, n))
		}
	}
	return all
}

func TestJ4DoesNotHangOnTheOrder(t *testing.T) {
	for _, x := range []struct {
		drop int
		devs []int
		want int
	}{{1, []int{-50, 2, 4, 90}, 3}, {0, []int{-50, 2, 4, 91, 3}, 20}, {1, []int{1, 2, 3, 4, 5, 8}, 3}, {2, []int{-9, -7, -7, -4, -4, 1, 3}, -6}, {3, []int{5, 5, 5, 6, 7, 7, 7}, 6}} {
		for _, devs := range orders(x.devs) {
			hasMiddle(t, x.drop, devs, x.want, api.OK)
			isPut(t, 7, x.drop, 2, devs, 7+min(max(x.want, -2), 2))
		}
	}
	chance := rand.New(rand.NewSource(18))
	for range 2000 {
		devs := some(chance, chance.Intn(68))
		drop := chance.Intn(9)
		want, fault := clock.Middle(drop, devs...)
		for range 10 {
			chance.Shuffle(len(devs), func(a, b int) { devs[a], devs[b] = devs[b], devs[a] })
			hasMiddle(t, drop, devs, want, fault)
		}
	}
}

// R3, R4: what is handed in stays as it was, what stands behind its length too; answers are the same again, and none is kept for a list that was changed since.
func TestWhatIsHandedInStays(t *testing.T) {
	chance := rand.New(rand.NewSource(19))
	for range 5000 {
		room := append(some(chance, chance.Intn(68)), 77, -78, two40)
		before := slices.Clone(room)
		many := len(room) - chance.Intn(4)
		drop, most := chance.Intn(10)-1, chance.Intn(9)-1
		for _, devs := range [][]int{room[:many], room[:many:many]} {
			for range 2 {
				want, fault := middle(drop, before[:many])
				hasMiddle(t, drop, devs, want, fault)
				isPut(t, 5, drop, most, devs, correct(5, drop, most, before[:many]))
				if got := clock.Spread(devs...); many > 0 && got != slices.Max(devs)-slices.Min(devs) {
					t.Errorf("%v: %d", devs, got)
				}
			}
		}
		if !slices.Equal(room, before) {
			t.Errorf("%v is changed to %v", before, room)
		}
		for k := range room {
			room[k] = k*k%11 - 5
		}
		want, fault := middle(drop, room[:many])
		hasMiddle(t, drop, room[:many], want, fault)
	}
}

// numbers are ordinary ones, edges, and far ones.
func numbers() []int {
	return append(around(0, -1000, 1000, 7, 64, -two20, two20, -two30, two30, -two40, two40), far()...)
}

// R1, R4: at all arguments calls end, answer the same again, and nothing beside an error.
func TestRulesHoldAtAllArguments(t *testing.T) {
	for _, a := range numbers() {
		for _, b := range numbers() {
			want, fault := elapsed(a, b)
			elapses(t, a, b, want, fault)
			elapses(t, a, b, want, fault)
			great, rest, fault := macro(a, b)
			isIn(t, a, b, great, rest, fault)
			isIn(t, a, b, great, rest, fault)
			for _, devs := range [][]int{nil, {b}, {a, b}, {b, a, 3}, {1, 2, 3, b}, same(65, b), same(15, b)} {
				want, fault := middle(a, devs)
				hasMiddle(t, a, devs, want, fault)
				hasMiddle(t, a, devs, want, fault)
				isPut(t, a, b, a, devs, correct(a, b, a, devs))
				isPut(t, b, 0, a, devs, correct(b, 0, a, devs))
			}
		}
	}
}
