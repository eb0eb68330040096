package lattice_test

import (
	"math"
	"math/big"
	"math/rand"
	"testing"

	"omnibus/api"
	"omnibus/lattice"
)

const two40 = 1 << 40

// far are numbers at which sums or products may go round.
func far() []int {
	return []int{math.MinInt, math.MinInt + 1, math.MinInt / 2, math.MinInt / 20000, -1 << 32, 1 << 32, math.MaxInt / 20000, math.MaxInt/2 + 1, math.MaxInt - 1, math.MaxInt}
}

// around are numbers, and the ones next to each.
func around(l ...int) []int {
	var all []int
	for _, n := range l {
		all = append(all, n-1, n, n+1)
	}
	return all
}

// down is a number divided by one above 0, rounded down.
func down(n, by int) int {
	return int(new(big.Int).Div(big.NewInt(int64(n)), big.NewInt(int64(by))).Int64())
}

// right are lattices that may be: small ones, ones with gaps odd and even, and those at the bounds.
func right() []api.Lattice {
	return []api.Lattice{
		{Act: 1, Gap: 1}, {Act: 1, Gap: 2}, {Act: 2, Gap: 1}, {Act: 3, Gap: 4}, {Act: 3, Gap: 5}, {Act: 5, Gap: 3}, {Act: 7, Gap: 6}, {Act: 100, Gap: 11}, {Act: 1000, Gap: 24},
		{Act: 1, Gap: 10000}, {Act: 1, Gap: 9999}, {Act: 10000, Gap: 1}, {Act: 10000, Gap: 2}, {Act: 9999, Gap: 9999}, {Act: 10000, Gap: 10000},
	}
}

// wrong are lattices that may not be: one part or both are beyond what they may be.
func wrong() []api.Lattice {
	l := []api.Lattice{{}, {Act: -3, Gap: -4}, {Act: 10001, Gap: 10001}, {Act: 0, Gap: 10001}, {Act: math.MinInt, Gap: math.MaxInt}}
	for _, n := range append([]int{-10000, -1, 0, 10001, 10002, 65536, 1<<32 + 3}, far()...) {
		for _, good := range []int{1, 3, 10000} {
			l = append(l, api.Lattice{Act: n, Gap: good}, api.Lattice{Act: good, Gap: n})
		}
	}
	return l
}

// beyond are times that may not be.
func beyond() []int {
	var l []int
	for _, time := range append([]int{-two40 - 1, two40 + 1, -two40 - 2, two40 + 2, -two40 - 10000, two40 + 10000, 2 * two40, -2 * two40}, far()...) {
		if time < -two40 || time > two40 {
			l = append(l, time)
		}
	}
	return l
}

// edges are times at which a lattice's answers change, of activities below 0, at 0 and above 0, and the first and the last time that may be.
func edges(l api.Lattice) []int {
	granule, half := l.Act+l.Gap, l.Gap/2
	all := []int{-two40, -two40 + 1, -two40 + half, -1, 0, 1, two40 - half, two40 - 1, two40}
	last := two40/granule - 1
	for _, n := range []int{-last, -1000, -3, -2, -1, 0, 1, 2, 3, 1000, last} {
		begin := n * granule
		// Its first and last tick, the gap's behind it, and half the gap ahead of it.
		all = append(all, around(begin, begin+l.Act-1, begin+l.Act, begin+granule-1, begin-half, begin-half-1)...)
	}
	return all
}

// epochOf is a time's Epoch by the chapter's words.
func epochOf(l api.Lattice, time int) int { return down(time+l.Gap/2, l.Act+l.Gap) }

// activeAt tells whether a time is in an activity, by the chapter's words.
func activeAt(l api.Lattice, time int) bool {
	granule := l.Act + l.Gap
	return time < down(time, granule)*granule+l.Act
}

// nextOf is a time's Next, by the chapter's words: the least time that is in an activity.
func nextOf(l api.Lattice, time int) int {
	for !activeAt(l, time) {
		time++
	}
	return time
}

func isRight(t *testing.T, l api.Lattice, want bool) {
	t.Helper()
	if got := lattice.Right(l); got != want {
		t.Errorf("%v is right: %v", l, got)
	}
}

func isNear(t *testing.T, l api.Lattice, dev int, want bool) {
	t.Helper()
	if got := lattice.Near(l, dev); got != want {
		t.Errorf("%v: %d is near: %v", l, dev, got)
	}
}

func isActive(t *testing.T, l api.Lattice, time int, want bool) {
	t.Helper()
	if got := lattice.Active(l, time); got != want {
		t.Errorf("%v: %d is active: %v", l, time, got)
	}
}

func hasNext(t *testing.T, l api.Lattice, time, want int, fault api.Errno) {
	t.Helper()
	if got, e := lattice.Next(l, time); got != want || e != fault {
		t.Errorf("%v: Next of %d: %d, %d, not %d, %d", l, time, got, e, want, fault)
	}
}

func hasEpoch(t *testing.T, l api.Lattice, time, want int, fault api.Errno) {
	t.Helper()
	if got, e := lattice.Epoch(l, time); got != want || e != fault {
		t.Errorf("%v: Epoch of %d: %d, %d, not %d, %d", l, time, got, e, want, fault)
	}
}

func begins(t *testing.T, l api.Lattice, epoch, want int, fault api.Errno) {
	t.Helper()
	if got, e := lattice.Begin(l, epoch); got != want || e != fault {
		t.Errorf("%v: Begin of %d: %d, %d, not %d, %d", l, epoch, got, e, want, fault)
	}
}

func isOrder(t *testing.T, l api.Lattice, a, b, want int, fault api.Errno) {
	t.Helper()
	if got, e := lattice.Order(l, a, b); got != want || e != fault {
		t.Errorf("%v: Order of %d and %d: %d, %d, not %d, %d", l, a, b, got, e, want, fault)
	}
}

func TestK1Right(t *testing.T) {
	for _, x := range []struct {
		l    api.Lattice
		want bool
	}{
		{api.Lattice{Act: 3, Gap: 4}, true}, {api.Lattice{Act: 4, Gap: 3}, true}, {api.Lattice{Act: 1, Gap: 1}, true}, {api.Lattice{Act: 10000, Gap: 10000}, true}, {api.Lattice{Act: 1, Gap: 10000}, true}, {api.Lattice{Act: 10000, Gap: 1}, true},
		{api.Lattice{Act: 0, Gap: 4}, false}, {api.Lattice{Act: 3, Gap: 0}, false}, {api.Lattice{Act: 10001, Gap: 4}, false}, {api.Lattice{Act: 3, Gap: 10001}, false}, {api.Lattice{Act: -1, Gap: 4}, false}, {api.Lattice{Act: 3, Gap: -1}, false}, {api.Lattice{}, false},
	} {
		isRight(t, x.l, x.want)
	}
	parts := append(around(-10000, -3, 0, 3, 5000, 10000), far()...)
	for _, act := range parts {
		for _, gap := range parts {
			want := act >= 1 && act <= 10000 && gap >= 1 && gap <= 10000
			isRight(t, api.Lattice{Act: act, Gap: gap}, want)
		}
	}
	for _, l := range right() {
		isRight(t, l, true)
	}
	for _, l := range wrong() {
		isRight(t, l, false)
	}
}

func TestK1Near(t *testing.T) {
	for _, x := range []struct {
		gap, dev int
		want     bool
	}{
		{4, -3, false}, {4, -2, true}, {4, -1, true}, {4, 0, true}, {4, 1, true}, {4, 2, true}, {4, 3, false},
		{5, -3, false}, {5, -2, true}, {5, 0, true}, {5, 2, true}, {5, 3, false},
		{6, -4, false}, {6, -3, true}, {6, 3, true}, {6, 4, false},
		{1, -1, false}, {1, 0, true}, {1, 1, false}, {2, -2, false}, {2, -1, true}, {2, 1, true}, {2, 2, false}, {3, 1, true}, {3, 2, false}, {3, -1, true}, {3, -2, false},
		{9999, 4999, true}, {9999, 5000, false}, {9999, -4999, true}, {9999, -5000, false}, {10000, 5000, true}, {10000, 5001, false}, {10000, -5000, true}, {10000, -5001, false},
	} {
		for _, act := range []int{1, 3, 10000} {
			isNear(t, api.Lattice{Act: act, Gap: x.gap}, x.dev, x.want)
		}
	}
	for _, l := range right() {
		for _, dev := range append(around(-l.Gap, -l.Gap/2, 0, l.Gap/2, l.Gap, -two40, two40), far()...) {
			isNear(t, l, dev, dev >= -(l.Gap/2) && dev <= l.Gap/2)
		}
	}
}

func TestK1NearOfWhatMayNotBe(t *testing.T) {
	for _, l := range wrong() {
		for _, dev := range append(around(-5000, -1, 0, 1, 5000), far()...) {
			isNear(t, l, dev, false)
		}
	}
}

func TestK2Active(t *testing.T) {
	l := api.Lattice{Act: 3, Gap: 4}
	for _, x := range []struct {
		time int
		want bool
	}{
		{8, true}, {6, false}, {7, true}, {9, true}, {10, false}, {13, false}, {14, true},
		{0, true}, {1, true}, {2, true}, {3, false}, {-1, false}, {-4, false}, {-5, true}, {-7, true}, {-8, false}, {-11, false}, {-12, true}, {-14, true}, {-15, false},
		// 2^40 is two ticks behind a granule's beginning, and -2^40 is five behind one.
		{two40 - 3, false}, {two40 - 2, true}, {two40, true}, {two40 + 1, false}, {-two40 + 1, false}, {-two40, false}, {-two40 + 2, true}, {-two40 - 1, false}, {-two40 - 3, false},
	} {
		isActive(t, l, x.time, x.want)
	}
	// Granules of two ticks: all even times are active, but those that may not be.
	l = api.Lattice{Act: 1, Gap: 1}
	for _, x := range []struct {
		time int
		want bool
	}{{0, true}, {1, false}, {-1, false}, {2, true}, {-2, true}, {two40, true}, {-two40, true}, {two40 - 1, false}, {two40 + 2, false}, {-two40 - 2, false}} {
		isActive(t, l, x.time, x.want)
	}
}

func TestK2Next(t *testing.T) {
	l := api.Lattice{Act: 3, Gap: 4}
	for _, x := range []struct{ time, want int }{
		{8, 8}, {7, 7}, {9, 9}, {10, 14}, {11, 14}, {13, 14}, {14, 14},
		{0, 0}, {2, 2}, {3, 7}, {6, 7}, {-1, 0}, {-4, 0}, {-5, -5}, {-7, -7}, {-8, -7}, {-11, -7}, {-12, -12}, {-14, -14}, {-15, -14},
		{-two40, -two40 + 2}, {-two40 + 1, -two40 + 2}, {-two40 + 2, -two40 + 2}, {two40, two40}, {two40 - 2, two40 - 2}, {two40 - 3, two40 - 2}, {two40 - 6, two40 - 2}, {two40 - 7, two40 - 7},
	} {
		hasNext(t, l, x.time, x.want, api.OK)
	}
}

// What is active next may be beyond 2^40: K2 names no error for that.
func TestK2NextInTheLastGap(t *testing.T) {
	for _, x := range []struct {
		l          api.Lattice
		time, want int
	}{
		{api.Lattice{Act: 1, Gap: 2}, two40, two40 + 2}, {api.Lattice{Act: 1, Gap: 2}, two40 - 1, two40 - 1},
		{api.Lattice{Act: 1, Gap: 4}, two40, two40 + 4}, {api.Lattice{Act: 1, Gap: 4}, two40 - 1, two40 - 1},
		{api.Lattice{Act: 3, Gap: 8}, two40, two40}, {api.Lattice{Act: 3, Gap: 10}, two40, two40 + 10}, {api.Lattice{Act: 3, Gap: 10}, two40 - 1, two40 - 1}, {api.Lattice{Act: 2, Gap: 11}, two40 - 1, two40 + 10},
		{api.Lattice{Act: 1, Gap: 9999}, two40, two40 + 2224}, {api.Lattice{Act: 1, Gap: 9999}, two40 - 7775, two40 + 2224}, {api.Lattice{Act: 1, Gap: 9999}, two40 - 7776, two40 - 7776},
	} {
		hasNext(t, x.l, x.time, x.want, api.OK)
	}
}

func TestK2OfSmallLattices(t *testing.T) {
	for act := 1; act <= 6; act++ {
		for gap := 1; gap <= 7; gap++ {
			l := api.Lattice{Act: act, Gap: gap}
			active := map[int]bool{}
			for n := -150; n <= 150; n++ {
				for tick := range act {
					active[n*(act+gap)+tick] = true
				}
			}
			for time := -200; time <= 200; time++ {
				next := time
				for !active[next] {
					next++
				}
				isActive(t, l, time, active[time])
				hasNext(t, l, time, next, api.OK)
			}
		}
	}
}

func TestK2AtTheEdges(t *testing.T) {
	for _, l := range right() {
		for _, time := range edges(l) {
			if time < -two40 || time > two40 {
				isActive(t, l, time, false)
				hasNext(t, l, time, 0, api.ErrArg)
				continue
			}
			isActive(t, l, time, activeAt(l, time))
			hasNext(t, l, time, nextOf(l, time), api.OK)
		}
	}
}

func TestK2OfWhatMayNotBe(t *testing.T) {
	for _, l := range right() {
		for _, time := range beyond() {
			isActive(t, l, time, false)
			hasNext(t, l, time, 0, api.ErrArg)
		}
	}
	for _, l := range wrong() {
		for _, time := range append(beyond(), -two40, -1, 0, 1, 8, two40) {
			isActive(t, l, time, false)
			hasNext(t, l, time, 0, api.ErrArg)
		}
	}
}

func TestK3Epoch(t *testing.T) {
	// Half the gap is 2, whether it is 4 or 5.
	for _, x := range []struct{ gap, time, want int }{
		{4, 8, 1}, {4, 12, 2}, {4, 11, 1}, {4, 0, 0}, {4, 1, 0}, {4, 2, 0}, {4, 3, 0}, {4, 4, 0}, {4, 5, 1}, {4, 7, 1}, {4, 9, 1}, {4, 13, 2}, {4, 14, 2}, {4, 16, 2}, {4, 18, 2}, {4, 19, 3},
		{4, -1, 0}, {4, -2, 0}, {4, -3, -1}, {4, -5, -1}, {4, -7, -1}, {4, -9, -1}, {4, -10, -2}, {4, -14, -2}, {4, -16, -2}, {4, -17, -3},
		{5, 0, 0}, {5, 5, 0}, {5, 6, 1}, {5, 8, 1}, {5, 13, 1}, {5, 14, 2}, {5, -1, 0}, {5, -2, 0}, {5, -3, -1}, {5, -8, -1}, {5, -10, -1}, {5, -11, -2},
		{5, two40, 1 << 37}, {5, two40 - 2, 1 << 37}, {5, two40 - 3, 1<<37 - 1}, {5, -two40, -1 << 37}, {5, -two40 + 5, -1 << 37}, {5, -two40 + 6, -1<<37 + 1},
		{4, two40, 157073089682}, {4, two40 - 4, 157073089682}, {4, two40 - 5, 157073089681}, {4, -two40, -157073089682}, {4, -two40 - 1, 0},
	} {
		fault := api.OK
		if x.time < -two40 {
			fault = api.ErrArg
		}
		hasEpoch(t, api.Lattice{Act: 3, Gap: x.gap}, x.time, x.want, fault)
	}
	// No half of a gap of one tick: a gap is of the activity ahead of it.
	for _, x := range []struct{ time, want int }{{0, 0}, {1, 0}, {2, 1}, {-1, -1}, {-2, -1}, {-3, -2}, {two40, 1 << 39}, {two40 - 1, 1<<39 - 1}, {-two40, -1 << 39}, {1 - two40, -1 << 39}} {
		hasEpoch(t, api.Lattice{Act: 1, Gap: 1}, x.time, x.want, api.OK)
	}
	// Half the gap is 4999: activity 109951163 begins behind 2^40, by 2224 ticks; the one of -109951163 ahead of -2^40.
	for _, x := range []struct{ time, want int }{{two40, 109951163}, {two40 - 2775, 109951163}, {two40 - 2776, 109951162}, {-two40, -109951163}, {-two40 + 2776, -109951163}, {-two40 + 2777, -109951162}} {
		hasEpoch(t, api.Lattice{Act: 1, Gap: 9999}, x.time, x.want, api.OK)
	}
}

func TestK3EpochOfSmallLattices(t *testing.T) {
	for act := 1; act <= 6; act++ {
		for gap := 1; gap <= 7; gap++ {
			l := api.Lattice{Act: act, Gap: gap}
			for time := -200; time <= 200; time++ {
				want := -300
				for (want+1)*(act+gap) <= time+gap/2 {
					want++
				}
				hasEpoch(t, l, time, want, api.OK)
			}
		}
	}
}

func TestK3EpochAtTheEdges(t *testing.T) {
	for _, l := range right() {
		for _, time := range edges(l) {
			if time < -two40 || time > two40 {
				hasEpoch(t, l, time, 0, api.ErrArg)
				continue
			}
			hasEpoch(t, l, time, epochOf(l, time), api.OK)
		}
	}
}

func TestK3EpochOfWhatMayNotBe(t *testing.T) {
	for _, l := range right() {
		for _, time := range beyond() {
			hasEpoch(t, l, time, 0, api.ErrArg)
		}
	}
	for _, l := range wrong() {
		for _, time := range append(beyond(), -two40, -1, 0, 1, 8, two40) {
			hasEpoch(t, l, time, 0, api.ErrArg)
		}
	}
}

func TestK3Begin(t *testing.T) {
	for _, x := range []struct {
		l           api.Lattice
		epoch, want int
		fault       api.Errno
	}{
		{api.Lattice{Act: 3, Gap: 4}, 2, 14, api.OK}, {api.Lattice{Act: 3, Gap: 4}, 1, 7, api.OK}, {api.Lattice{Act: 3, Gap: 4}, 0, 0, api.OK}, {api.Lattice{Act: 3, Gap: 4}, -1, -7, api.OK}, {api.Lattice{Act: 3, Gap: 4}, -3, -21, api.OK},
		{api.Lattice{Act: 3, Gap: 4}, 157073089682, two40 - 2, api.OK}, {api.Lattice{Act: 3, Gap: 4}, 157073089683, 0, api.ErrArg}, {api.Lattice{Act: 3, Gap: 4}, -157073089682, 2 - two40, api.OK}, {api.Lattice{Act: 3, Gap: 4}, -157073089683, 0, api.ErrArg},
		{api.Lattice{Act: 1, Gap: 1}, 1 << 39, two40, api.OK}, {api.Lattice{Act: 1, Gap: 1}, 1<<39 + 1, 0, api.ErrArg}, {api.Lattice{Act: 1, Gap: 1}, -1 << 39, -two40, api.OK}, {api.Lattice{Act: 1, Gap: 1}, -1<<39 - 1, 0, api.ErrArg},
		{api.Lattice{Act: 10000, Gap: 10000}, 54975581, 1099511620000, api.OK}, {api.Lattice{Act: 10000, Gap: 10000}, 54975582, 0, api.ErrArg}, {api.Lattice{Act: 10000, Gap: 10000}, -54975581, -1099511620000, api.OK}, {api.Lattice{Act: 10000, Gap: 10000}, -54975582, 0, api.ErrArg},
		// Products that go round to 0, and to little numbers.
		{api.Lattice{Act: 2, Gap: 2}, 1 << 62, 0, api.ErrArg}, {api.Lattice{Act: 2, Gap: 2}, 1<<62 + 1, 0, api.ErrArg}, {api.Lattice{Act: 2, Gap: 2}, -1 << 62, 0, api.ErrArg}, {api.Lattice{Act: 2, Gap: 2}, -1<<62 + 1, 0, api.ErrArg}, {api.Lattice{Act: 8192, Gap: 8192}, 1<<50 + 3, 0, api.ErrArg}, {api.Lattice{Act: 1, Gap: 1}, math.MinInt, 0, api.ErrArg}, {api.Lattice{Act: 1, Gap: 1}, math.MaxInt, 0, api.ErrArg},
	} {
		begins(t, x.l, x.epoch, x.want, x.fault)
	}
}

func TestK3BeginAtTheEdges(t *testing.T) {
	for _, l := range right() {
		granule := l.Act + l.Gap
		last := two40 / granule
		for _, epoch := range append(around(-two40, -last, -1000, -1, 0, 1, 1000, last, two40), far()...) {
			if epoch < -last || epoch > last {
				begins(t, l, epoch, 0, api.ErrArg)
				continue
			}
			begins(t, l, epoch, epoch*granule, api.OK)
			hasEpoch(t, l, epoch*granule, epoch, api.OK)
			hasNext(t, l, epoch*granule, epoch*granule, api.OK)
		}
	}
}

func TestK3BeginOfWhatMayNotBe(t *testing.T) {
	for _, l := range wrong() {
		for _, epoch := range append(around(0, -1000, 1000, two40, -two40), far()...) {
			begins(t, l, epoch, 0, api.ErrArg)
		}
	}
}

// orderOf is which of two epochs is less.
func orderOf(a, b int) int {
	switch {
	case a < b:
		return -1
	case a > b:
		return 1
	}
	return 0
}

func TestK4Order(t *testing.T) {
	l := api.Lattice{Act: 3, Gap: 4}
	for _, x := range []struct{ a, b, want int }{
		{11, 12, -1}, {12, 11, 1}, {8, 12, -1}, {5, 11, 0}, {11, 5, 0}, {4, 5, -1}, {5, 4, 1}, {8, 8, 0}, {7, 9, 0}, {9, 7, 0}, {0, 7, -1}, {7, 0, 1}, {0, 1, 0},
		{-2, 0, 0}, {0, -2, 0}, {-3, -2, -1}, {-2, -3, 1}, {-9, -3, 0}, {-10, -3, -1}, {-3, -10, 1}, {-7, 7, -1}, {7, -7, 1},
		{-two40, two40, -1}, {two40, -two40, 1}, {two40, two40, 0}, {-two40, -two40, 0}, {two40 - 4, two40, 0}, {two40 - 5, two40, -1}, {two40, two40 - 5, 1}, {0, two40, -1}, {0, -two40, 1},
	} {
		isOrder(t, l, x.a, x.b, x.want, api.OK)
	}
}

func TestK4AtTheEdges(t *testing.T) {
	for _, l := range right() {
		for _, a := range edges(l) {
			for _, b := range edges(l) {
				if a < -two40 || a > two40 || b < -two40 || b > two40 {
					isOrder(t, l, a, b, 0, api.ErrArg)
					continue
				}
				isOrder(t, l, a, b, orderOf(epochOf(l, a), epochOf(l, b)), api.OK)
			}
		}
	}
}

func TestK4OfSmallLattices(t *testing.T) {
	for act := 1; act <= 4; act++ {
		for gap := 1; gap <= 5; gap++ {
			l := api.Lattice{Act: act, Gap: gap}
			for a := -30; a <= 30; a++ {
				for b := -30; b <= 30; b++ {
					isOrder(t, l, a, b, orderOf(epochOf(l, a), epochOf(l, b)), api.OK)
				}
			}
		}
	}
}

func TestK4OfWhatMayNotBe(t *testing.T) {
	for _, l := range right() {
		for _, a := range beyond() {
			for _, b := range []int{-two40, -1, 0, 1, 8, two40} {
				isOrder(t, l, a, b, 0, api.ErrArg)
				isOrder(t, l, b, a, 0, api.ErrArg)
			}
			for _, b := range beyond() {
				isOrder(t, l, a, b, 0, api.ErrArg)
			}
		}
	}
	for _, l := range wrong() {
		for _, a := range []int{-two40 - 1, -two40, -1, 0, 1, two40, two40 + 1, math.MinInt, math.MaxInt} {
			for _, b := range []int{-two40 - 1, -two40, -1, 0, 1, two40, two40 + 1, math.MinInt, math.MaxInt} {
				isOrder(t, l, a, b, 0, api.ErrArg)
			}
		}
	}
}

// Each tick of an activity, by each clock that is near: one epoch, and it is the activity's number.
func TestK5EachClockThatIsNearTellsTheEpoch(t *testing.T) {
	for act := 1; act <= 8; act++ {
		for gap := 1; gap <= 12; gap++ {
			l := api.Lattice{Act: act, Gap: gap}
			for n := -4; n <= 4; n++ {
				begin, _ := lattice.Begin(l, n)
				for tick := range act {
					isActive(t, l, begin+tick, true)
					for dev := -gap; dev <= gap; dev++ {
						if lattice.Near(l, dev) {
							hasEpoch(t, l, begin+tick+dev, n, api.OK)
						}
					}
				}
			}
		}
	}
	for _, l := range right() {
		last := two40/(l.Act+l.Gap) - 1
		for _, n := range []int{-last, -1000, -1, 0, 1, 1000, last} {
			begin, _ := lattice.Begin(l, n)
			for _, dev := range []int{-l.Gap / 2, -l.Gap / 4, 0, l.Gap / 4, l.Gap / 2} {
				isNear(t, l, dev, true)
				hasEpoch(t, l, begin+dev, n, api.OK)
				hasEpoch(t, l, begin+l.Act-1+dev, n, api.OK)
			}
		}
	}
}

// A clock that is not near tells another epoch of the first tick of an activity, or of the last one. (Where the gap is odd it may be late by one tick more.)
func TestK5AClockThatIsNotNearDoesNot(t *testing.T) {
	for _, l := range right() {
		for _, n := range []int{-1000, -1, 0, 1, 1000} {
			begin, _ := lattice.Begin(l, n)
			early, late := -l.Gap/2-1, l.Gap/2+1+l.Gap%2
			isNear(t, l, early, false)
			isNear(t, l, late, false)
			hasEpoch(t, l, begin+early, n-1, api.OK)
			hasEpoch(t, l, begin+l.Act-1+late, n+1, api.OK)
			isOrder(t, l, begin+early, begin, -1, api.OK)
			isOrder(t, l, begin+l.Act-1+late, begin, 1, api.OK)
		}
	}
}

// someLattice is one that may be, a small one mostly.
func someLattice(chance *rand.Rand) api.Lattice {
	most := []int{3, 20, 20, 10000}[chance.Intn(4)]
	return api.Lattice{Act: 1 + chance.Intn(most), Gap: 1 + chance.Intn(most)}
}

// happens is a time in one of a lattice's activities, close to 0 or far from it.
func happens(chance *rand.Rand, l api.Lattice) int {
	granules := []int{3, 100, two40/(l.Act+l.Gap) - 1}[chance.Intn(3)]
	return (chance.Intn(2*granules+1)-granules)*(l.Act+l.Gap) + chance.Intn(l.Act)
}

// Whichever clocks that are near tell of what happens, and whichever other ones do: they agree on the order, which is that of the activities.
func TestK5AllAgreeOnTheOrder(t *testing.T) {
	chance := rand.New(rand.NewSource(20))
	for range 100000 {
		if t.Failed() {
			return
		}
		l := someLattice(chance)
		a, b := happens(chance, l), happens(chance, l)
		granule := l.Act + l.Gap
		want := orderOf(down(a, granule), down(b, granule))
		isOrder(t, l, a, b, want, api.OK)
		for range 3 {
			first, second := chance.Intn(l.Gap/2*2+1)-l.Gap/2, chance.Intn(l.Gap/2*2+1)-l.Gap/2
			isNear(t, l, first, true)
			isNear(t, l, second, true)
			isOrder(t, l, a+first, b+first, want, api.OK)
			isOrder(t, l, a+first, b+second, want, api.OK)
			isOrder(t, l, b+second, a+first, -want, api.OK)
		}
	}
}

// R1, R4: at all arguments calls end, answer the same again, and nothing beside an error; what is handed in stays as it was.
func TestRulesHoldAtAllArguments(t *testing.T) {
	numbers := append(around(0, -10000, 10000, -two40, two40), far()...)
	lattices := append(right(), wrong()...)
	for _, l := range lattices {
		before := l
		for _, a := range numbers {
			may := lattice.Right(l) && a >= -two40 && a <= two40
			for range 2 {
				if !may {
					isActive(t, l, a, false)
					hasNext(t, l, a, 0, api.ErrArg)
					hasEpoch(t, l, a, 0, api.ErrArg)
					begins(t, l, a, 0, api.ErrArg)
				} else {
					isActive(t, l, a, activeAt(l, a))
					hasNext(t, l, a, nextOf(l, a), api.OK)
					hasEpoch(t, l, a, epochOf(l, a), api.OK)
				}
				isNear(t, l, a, lattice.Right(l) && a >= -(l.Gap/2) && a <= l.Gap/2)
			}
			for _, b := range numbers {
				if !may || b < -two40 || b > two40 {
					isOrder(t, l, a, b, 0, api.ErrArg)
				} else {
					isOrder(t, l, a, b, orderOf(epochOf(l, a), epochOf(l, b)), api.OK)
				}
			}
		}
		if l != before {
			t.Errorf("%v is changed to %v", before, l)
		}
	}
}
