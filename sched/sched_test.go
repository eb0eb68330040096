package sched_test

import (
	"math"
	"math/big"
	"math/rand"
	"reflect"
	"slices"
	"testing"

	"omnibus/api"
	"omnibus/sched"
)

const (
	two30 = 1 << 30
	two40 = 1 << 40
)

// small is that of the chapter's example.
func small() api.Plan {
	return api.Plan{Slots: []api.Slot{{Node: 4, Ticks: 3}, {Node: 0, Ticks: 2}}, Cycle: 2}
}

// even is a plan of so many slots, each with so many ticks.
func even(slots, ticks, cycle int) api.Plan {
	p := api.Plan{Cycle: cycle}
	for n := range slots {
		p.Slots = append(p.Slots, api.Slot{Node: n, Ticks: ticks})
	}
	return p
}

// plans are right ones, the edges among them.
func plans() []api.Plan {
	return []api.Plan{
		small(),
		even(2, 1, 1), even(2, 1, 64), even(2, 1000, 1), even(3, 1, 3), even(5, 7, 3),
		even(16, 1, 1), even(16, 1000, 64), even(15, 999, 63),
		{Slots: []api.Slot{{Node: 15, Ticks: 1}, {Node: 0, Ticks: 1000}}, Cycle: 64},
		{Slots: []api.Slot{{Node: 0, Ticks: 1000}, {Node: 15, Ticks: 1}}, Cycle: 1},
		{Slots: []api.Slot{{Node: 9, Ticks: 1}, {Node: 3, Ticks: 5}, {Node: 12, Ticks: 2}, {Node: 1, Ticks: 1}}, Cycle: 3},
		{Slots: []api.Slot{{Node: 4, Ticks: 3}, {Node: 0, Ticks: 1}, {Node: 15, Ticks: 1000}}, Cycle: 2},
		{Slots: []api.Slot{{Node: 7, Ticks: 13}, {Node: 2, Ticks: 128}, {Node: 11, Ticks: 1}, {Node: 5, Ticks: 997}, {Node: 14, Ticks: 31}}, Cycle: 37},
	}
}

// with is a plan of its own, changed.
func with(p api.Plan, change func(p *api.Plan)) api.Plan {
	p.Slots = slices.Clone(p.Slots)
	change(&p)
	return p
}

// wrongPlans part from right ones in one thing each, but for the first ones.
func wrongPlans() []api.Plan {
	l := []api.Plan{
		{}, {Cycle: 1}, {Slots: []api.Slot{}, Cycle: 64}, {Slots: make([]api.Slot, 2), Cycle: 1}, {Slots: []api.Slot{{Node: -1, Ticks: -1}, {Node: 16, Ticks: 2}}},
		even(1, 1, 1), even(1, 1000, 64), even(17, 1, 1), even(17, 1000, 64), even(18, 5, 5), even(300, 1, 1),
		with(even(17, 5, 5), func(p *api.Plan) { p.Slots[16].Node = 3 }),
		// Sums that go round.
		{Slots: []api.Slot{{Node: 1, Ticks: math.MaxInt}, {Node: 2, Ticks: math.MaxInt}, {Node: 3, Ticks: 12}}, Cycle: 2},
		{Slots: []api.Slot{{Node: 1, Ticks: -5}, {Node: 2, Ticks: 10}}, Cycle: 2},
		{Slots: []api.Slot{{Node: 1, Ticks: 0}, {Node: 2, Ticks: 0}}, Cycle: 2},
	}
	for _, p := range []api.Plan{small(), even(16, 1000, 64), even(5, 7, 3)} {
		for _, n := range []int{0, 65, -1, 66, 128, -64, math.MaxInt, math.MinInt} {
			l = append(l, with(p, func(p *api.Plan) { p.Cycle = n }))
		}
		for k := range p.Slots {
			for _, n := range []int{-1, 16, 17, -2, -16, 64, 1 << 32, math.MaxInt, math.MinInt, p.Slots[(k+1)%len(p.Slots)].Node, p.Slots[(k+len(p.Slots)-1)%len(p.Slots)].Node} {
				l = append(l, with(p, func(p *api.Plan) { p.Slots[k].Node = n }))
			}
			for _, n := range []int{0, 1001, -1, 1002, -1000, 1 << 32, math.MaxInt, math.MinInt} {
				l = append(l, with(p, func(p *api.Plan) { p.Slots[k].Ticks = n }))
			}
		}
	}
	return l
}

// right is H1's, by its words.
func right(p api.Plan) bool {
	if len(p.Slots) < 2 || len(p.Slots) > 16 || p.Cycle < 1 || p.Cycle > 64 {
		return false
	}
	met := map[int]int{}
	for _, s := range p.Slots {
		met[s.Node]++
		if s.Node < 0 || s.Node > 15 || met[s.Node] > 1 || s.Ticks < 1 || s.Ticks > 1000 {
			return false
		}
	}
	return true
}

// ticks are those of a right plan's round.
func ticks(p api.Plan) int {
	n := 0
	for _, s := range p.Slots {
		n += s.Ticks
	}
	return n
}

// timeOf is how many ticks are ahead of a spot whose Slot the plan has, however many they are.
func timeOf(p api.Plan, s api.Spot) *big.Int {
	n := big.NewInt(int64(s.Cycle))
	n.Mul(n, big.NewInt(int64(p.Cycle)))
	n.Add(n, big.NewInt(int64(s.Round)))
	n.Mul(n, big.NewInt(int64(ticks(p))))
	for _, slot := range p.Slots[:s.Slot] {
		n.Add(n, big.NewInt(int64(slot.Ticks)))
	}
	return n.Add(n, big.NewInt(int64(s.Tick)))
}

// may tells whether a spot may be by a right plan, by the chapter's words.
func may(p api.Plan, s api.Spot) bool {
	return s.Cycle >= 0 &&
		s.Round >= 0 && s.Round <= p.Cycle-1 &&
		s.Slot >= 0 && s.Slot <= len(p.Slots)-1 &&
		s.Tick >= 0 && s.Tick <= p.Slots[s.Slot].Ticks-1 &&
		timeOf(p, s).Cmp(big.NewInt(two40)) <= 0
}

// next is the spot one tick later.
func next(p api.Plan, s api.Spot) api.Spot {
	s.Tick++
	if s.Tick < p.Slots[s.Slot].Ticks {
		return s
	}
	return nextSlot(p, s)
}

// nextSlot is the first tick of the slot behind that of a spot.
func nextSlot(p api.Plan, s api.Spot) api.Spot {
	s.Tick = 0
	s.Slot++
	if s.Slot == len(p.Slots) {
		s.Slot = 0
		s.Round++
	}
	if s.Round == p.Cycle {
		s.Round = 0
		s.Cycle++
	}
	return s
}

// spotOf is the spot of a time, from the beginning of its cycle on, slot by slot.
func spotOf(p api.Plan, time int) api.Spot {
	whole := p.Cycle * ticks(p)
	s := api.Spot{Cycle: time / whole}
	left := time % whole
	for left >= p.Slots[s.Slot].Ticks {
		left -= p.Slots[s.Slot].Ticks
		s = nextSlot(p, s)
	}
	s.Tick = left
	return s
}

// lastSpot is that whose time is 2^40.
func lastSpot(p api.Plan) api.Spot { return spotOf(p, two40) }

// laterOf is the spot so many slots behind that of s, cycle by cycle as a whole, the rest slot by slot.
func laterOf(p api.Plan, s api.Spot, slots int) api.Spot {
	if slots == 0 {
		return s
	}
	cycle := p.Cycle * len(p.Slots)
	s.Cycle += slots / cycle
	s.Tick = 0
	for range slots % cycle {
		s = nextSlot(p, s)
	}
	return s
}

// farNumbers are those at which sums or products may go round, or lose what is behind the first 53 bits.
func farNumbers() []int {
	l := []int{math.MaxInt, math.MaxInt - 1, math.MaxInt / 2, math.MaxInt / 64, math.MinInt, math.MinInt + 1, math.MinInt / 2, -two40, -2, two40 + 1, 1<<53 + 1}
	for k := 30; k < 63; k++ {
		l = append(l, 1<<k, 1<<k-1)
	}
	return l
}

// spots are those each of whose fields is one below, at and one above its bounds, and some far beyond.
func spots(p api.Plan) []api.Spot {
	last := lastSpot(p)
	var l []api.Spot
	for _, cycle := range []int{-1, 0, 1, 7, last.Cycle - 1, last.Cycle, last.Cycle + 1} {
		for _, round := range []int{-1, 0, 1, last.Round, p.Cycle - 1, p.Cycle} {
			for _, slot := range []int{-1, 0, 1, last.Slot, len(p.Slots) - 1, len(p.Slots), len(p.Slots) + 1} {
				for _, tick := range tickEdges(p, slot) {
					l = append(l, api.Spot{Cycle: cycle, Round: round, Slot: slot, Tick: tick})
				}
			}
		}
	}
	for _, n := range farNumbers() {
		l = append(l, api.Spot{Cycle: n}, api.Spot{Round: n}, api.Spot{Slot: n}, api.Spot{Tick: n}, api.Spot{Cycle: n, Round: n, Slot: n, Tick: n})
		l = append(l, api.Spot{Cycle: n, Round: p.Cycle - 1, Slot: len(p.Slots) - 1, Tick: p.Slots[len(p.Slots)-1].Ticks - 1})
	}
	return append(l, last, next(p, last), nextSlot(p, last), spotOf(p, two40-1))
}

// tickEdges are ticks at the bounds of a slot, and of none.
func tickEdges(p api.Plan, slot int) []int {
	if slot < 0 || slot >= len(p.Slots) {
		return []int{-1, 0, 1}
	}
	n := p.Slots[slot].Ticks
	return []int{-1, 0, 1, n - 1, n, n + 1}
}

// times are ordinary ones, and the edges of what may be.
func times(p api.Plan) []int {
	round := ticks(p)
	cycle := round * p.Cycle
	l := []int{-1, 0, 1, two40 - 1, two40, two40 + 1}
	at := 0
	for _, s := range p.Slots {
		at += s.Ticks
		l = append(l, at-1, at, cycle+at-1, cycle+at, 12345*cycle+at-1, 12345*cycle+at)
	}
	for _, n := range []int{round, cycle, 3 * cycle, 7 * round, two40 / cycle * cycle, two40 / round * round} {
		l = append(l, n-1, n, n+1)
	}
	return append(l, farNumbers()...)
}

func TestH1Right(t *testing.T) {
	for _, x := range []struct {
		p    api.Plan
		want bool
	}{
		{small(), true}, {api.Plan{}, false}, {even(0, 5, 5), false}, {even(1, 5, 5), false}, {even(2, 5, 5), true}, {even(16, 5, 5), true}, {even(17, 5, 5), false},
		{even(2, 0, 5), false}, {even(2, 1, 5), true}, {even(2, 1000, 5), true}, {even(2, 1001, 5), false},
		{even(2, 5, 0), false}, {even(2, 5, 1), true}, {even(2, 5, 64), true}, {even(2, 5, 65), false}, {even(2, 5, -1), false},
		{with(small(), func(p *api.Plan) { p.Slots[0].Node = -1 }), false},
		{with(small(), func(p *api.Plan) { p.Slots[1].Node = 15 }), true},
		{with(small(), func(p *api.Plan) { p.Slots[1].Node = 16 }), false},
		{with(small(), func(p *api.Plan) { p.Slots[1].Node = 4 }), false},
		{with(even(16, 5, 5), func(p *api.Plan) { p.Slots[15].Node = 0 }), false},
		{with(even(3, 5, 5), func(p *api.Plan) { p.Slots[0].Node = 2 }), false},
	} {
		if got := sched.Right(x.p); got != x.want {
			t.Errorf("%v: %t", x.p, got)
		}
	}
}

func TestH1RightOfAllPlans(t *testing.T) {
	for _, p := range plans() {
		if !sched.Right(p) || !right(p) {
			t.Errorf("%v", p)
		}
	}
	for _, p := range wrongPlans() {
		if sched.Right(p) || right(p) {
			t.Errorf("%v", p)
		}
	}
}

func TestH1RightOfManyPlans(t *testing.T) {
	chance := rand.New(rand.NewSource(8))
	for range 20000 {
		p := api.Plan{Cycle: chance.Intn(70) - 2}
		for _, n := range chance.Perm(18)[:chance.Intn(19)] {
			p.Slots = append(p.Slots, api.Slot{Node: (n + 17) % 18, Ticks: 1 + chance.Intn(1000)})
		}
		if len(p.Slots) > 1 && chance.Intn(4) == 0 {
			p.Slots[0].Node = p.Slots[chance.Intn(len(p.Slots))].Node
		}
		if got := sched.Right(p); got != right(p) {
			t.Errorf("%v: %t", p, got)
		}
	}
}

// vector is that of the nodes from 0 to 15, by their places' powers of two.
func vector(p api.Plan) int {
	v, power := 0, 1
	for n := range 16 {
		if slices.ContainsFunc(p.Slots, func(s api.Slot) bool { return s.Node == n }) {
			v += power
		}
		power *= 2
	}
	return v
}

func TestH1Nodes(t *testing.T) {
	for _, x := range []struct {
		nodes []int
		want  int
	}{
		{nil, 0}, {[]int{0}, 1}, {[]int{15}, 1 << 15}, {[]int{4, 0}, 17}, {[]int{4, 4}, 16}, {[]int{4, 4, 4}, 16},
		{[]int{-1, 3}, 8}, {[]int{16, 3}, 8}, {[]int{-1, 16}, 0}, {[]int{0, -1, 15, 16, 64, 2}, 1<<15 | 5},
		{[]int{math.MaxInt, 1, math.MinInt, 1 << 32}, 2}, {[]int{0, 1, 2, 3, 4, 5, 6, 7, 8, 9, 10, 11, 12, 13, 14, 15, 16, 17}, 65535},
	} {
		for _, ticks := range []int{5, 0, -1, 1001} {
			for _, cycle := range []int{2, 0, 65} {
				p := api.Plan{Cycle: cycle}
				for _, n := range x.nodes {
					p.Slots = append(p.Slots, api.Slot{Node: n, Ticks: ticks})
				}
				if got := sched.Nodes(p); got != x.want {
					t.Errorf("%v: %d, not %d", p, got, x.want)
				}
			}
		}
	}
	for _, p := range append(plans(), wrongPlans()...) {
		if got := sched.Nodes(p); got != vector(p) {
			t.Errorf("%v: %d, not %d", p, got, vector(p))
		}
	}
}

func TestH1Round(t *testing.T) {
	for _, x := range []struct {
		p    api.Plan
		want int
	}{{small(), 5}, {even(2, 1, 1), 2}, {even(16, 1000, 64), 16000}, {even(16, 1, 1), 16}, {even(2, 1000, 64), 2000}, {api.Plan{}, 0}, {even(1, 5, 5), 0}, {even(17, 5, 5), 0}} {
		if got := sched.Round(x.p); got != x.want {
			t.Errorf("%v: %d, not %d", x.p, got, x.want)
		}
	}
	for _, p := range plans() {
		if got := sched.Round(p); got != ticks(p) {
			t.Errorf("%v: %d, not %d", p, got, ticks(p))
		}
	}
	for _, p := range wrongPlans() {
		if got := sched.Round(p); got != 0 {
			t.Errorf("%v: %d", p, got)
		}
	}
}

// nodes are those that may be, and numbers that are none.
func nodes() []int {
	l := []int{-1, -2, -16, 16, 17, 31, 32, 64, 1 << 32, 1<<32 + 4, -1 << 32, math.MaxInt, math.MinInt, math.MinInt + 4}
	for n := range 16 {
		l = append(l, n)
	}
	return l
}

func TestH1Slot(t *testing.T) {
	for _, p := range plans() {
		for _, node := range nodes() {
			want := slices.IndexFunc(p.Slots, func(s api.Slot) bool { return s.Node == node })
			there := want >= 0
			if got, is := sched.Slot(p, node); got != max(want, 0) || is != there {
				t.Errorf("%v: node %d: %d, %t", p, node, got, is)
			}
		}
	}
	if place, is := sched.Slot(small(), 4); place != 0 || !is {
		t.Error(place, is)
	}
	if place, is := sched.Slot(small(), 0); place != 1 || !is {
		t.Error(place, is)
	}
}

func TestH1SlotByAPlanThatIsNotRight(t *testing.T) {
	for _, p := range wrongPlans() {
		l := nodes()
		for _, s := range p.Slots {
			l = append(l, s.Node)
		}
		for _, node := range l {
			if got, is := sched.Slot(p, node); got != 0 || is {
				t.Errorf("%v: node %d: %d, %t", p, node, got, is)
			}
		}
	}
}

func stands(t *testing.T, p api.Plan, time int, want api.Spot, fault api.Errno) {
	t.Helper()
	if s, e := sched.At(p, time); s != want || e != fault {
		t.Errorf("%v: time %d: %v, %d, not %v, %d", p, time, s, e, want, fault)
	}
}

func is(t *testing.T, p api.Plan, s api.Spot, want int, fault api.Errno) {
	t.Helper()
	if n, e := sched.Time(p, s); n != want || e != fault {
		t.Errorf("%v: spot %v: %d, %d, not %d, %d", p, s, n, e, want, fault)
	}
}

func TestH2OfTheSmallPlan(t *testing.T) {
	for _, x := range []struct {
		time int
		s    api.Spot
	}{
		{0, api.Spot{}}, {1, api.Spot{Tick: 1}}, {2, api.Spot{Tick: 2}}, {3, api.Spot{Slot: 1}}, {4, api.Spot{Slot: 1, Tick: 1}},
		{5, api.Spot{Round: 1}}, {7, api.Spot{Round: 1, Tick: 2}}, {8, api.Spot{Round: 1, Slot: 1}}, {9, api.Spot{Round: 1, Slot: 1, Tick: 1}},
		{10, api.Spot{Cycle: 1}}, {12, api.Spot{Cycle: 1, Tick: 2}}, {19, api.Spot{Cycle: 1, Round: 1, Slot: 1, Tick: 1}}, {20, api.Spot{Cycle: 2}},
		{two40 - 1, api.Spot{Cycle: 109951162777, Round: 1, Slot: 0, Tick: 0}}, {two40, api.Spot{Cycle: 109951162777, Round: 1, Slot: 0, Tick: 1}},
	} {
		stands(t, small(), x.time, x.s, api.OK)
		is(t, small(), x.s, x.time, api.OK)
	}
	for _, n := range []int{-1, two40 + 1, math.MaxInt, math.MinInt} {
		stands(t, small(), n, api.Spot{}, api.ErrArg)
	}
}

// Tick by tick, from the first one of cycle 0 on, and from the beginning of a late cycle.
func TestH2OfEachTick(t *testing.T) {
	for _, p := range plans() {
		whole := ticks(p) * p.Cycle
		for _, cycle := range []int{0, 1000003, two40/whole - 1} {
			s := api.Spot{Cycle: cycle}
			for time := cycle * whole; time < min(cycle*whole+2*whole+1, two40+1); time++ {
				if time%whole < 5000 || time%whole > whole-500 {
					stands(t, p, time, s, api.OK)
					is(t, p, s, time, api.OK)
				}
				s = next(p, s)
			}
		}
	}
}

func TestH2AtOfAllTimes(t *testing.T) {
	for _, p := range plans() {
		for _, n := range times(p) {
			if n < 0 || n > two40 {
				stands(t, p, n, api.Spot{}, api.ErrArg)
			} else {
				stands(t, p, n, spotOf(p, n), api.OK)
			}
		}
	}
}

func TestH2TimeOfAllSpots(t *testing.T) {
	for _, p := range plans() {
		for _, s := range spots(p) {
			if may(p, s) {
				is(t, p, s, int(timeOf(p, s).Int64()), api.OK)
			} else {
				is(t, p, s, 0, api.ErrArg)
			}
		}
	}
}

func TestH2TimeAtItsBound(t *testing.T) {
	for _, p := range plans() {
		last := lastSpot(p)
		is(t, p, last, two40, api.OK)
		is(t, p, next(p, last), 0, api.ErrArg)
		is(t, p, nextSlot(p, last), 0, api.ErrArg)
		is(t, p, api.Spot{Cycle: last.Cycle + 1}, 0, api.ErrArg)
	}
	is(t, even(2, 1, 1), api.Spot{Cycle: 1 << 39}, two40, api.OK)
	is(t, even(2, 1, 1), api.Spot{Cycle: 1 << 39, Slot: 1}, 0, api.ErrArg)
	is(t, even(2, 1, 1), api.Spot{Cycle: 1<<39 - 1, Slot: 1}, two40-1, api.OK)
	is(t, even(2, 1, 1), api.Spot{Cycle: math.MaxInt}, 0, api.ErrArg)
}

func TestH2ByAPlanThatIsNotRight(t *testing.T) {
	for _, p := range wrongPlans() {
		for _, n := range []int{-1, 0, 1, 5, 1000, two40, two40 + 1, math.MaxInt, math.MinInt} {
			stands(t, p, n, api.Spot{}, api.ErrArg)
		}
		for _, s := range spots(small()) {
			is(t, p, s, 0, api.ErrArg)
		}
	}
}

func goesOn(t *testing.T, p api.Plan, s api.Spot, slots int, want api.Spot, fault api.Errno) {
	t.Helper()
	if got, e := sched.Later(p, s, slots); got != want || e != fault {
		t.Errorf("%v: %d slots behind %v: %v, %d, not %v, %d", p, slots, s, got, e, want, fault)
	}
}

func TestH3OfTheSmallPlan(t *testing.T) {
	for _, x := range []struct {
		s     api.Spot
		slots int
		want  api.Spot
	}{
		{api.Spot{}, 0, api.Spot{}}, {api.Spot{Tick: 2}, 0, api.Spot{Tick: 2}}, {api.Spot{Cycle: 7, Round: 1, Slot: 1, Tick: 1}, 0, api.Spot{Cycle: 7, Round: 1, Slot: 1, Tick: 1}},
		{api.Spot{}, 1, api.Spot{Slot: 1}}, {api.Spot{Tick: 2}, 1, api.Spot{Slot: 1}}, {api.Spot{Slot: 1, Tick: 1}, 1, api.Spot{Round: 1}},
		{api.Spot{}, 2, api.Spot{Round: 1}}, {api.Spot{}, 3, api.Spot{Round: 1, Slot: 1}}, {api.Spot{}, 4, api.Spot{Cycle: 1}}, {api.Spot{Tick: 1}, 4, api.Spot{Cycle: 1}},
		{api.Spot{Round: 1, Slot: 1, Tick: 1}, 1, api.Spot{Cycle: 1}}, {api.Spot{Cycle: 9, Round: 1, Slot: 1}, 2, api.Spot{Cycle: 10, Slot: 1}},
		{api.Spot{Slot: 1}, 4003, api.Spot{Cycle: 1001}}, {api.Spot{}, two30, api.Spot{Cycle: 1 << 28}}, {api.Spot{Slot: 1}, two30 - 1, api.Spot{Cycle: 1 << 28}},
	} {
		goesOn(t, small(), x.s, x.slots, x.want, api.OK)
	}
	for _, n := range []int{-1, -2, two30 + 1, 1 << 31, 1 << 32, two40, math.MaxInt, math.MinInt} {
		goesOn(t, small(), api.Spot{}, n, api.Spot{}, api.ErrArg)
	}
}

// manySlots are how many a spot may go on, and what it may not.
func manySlots(p api.Plan) []int {
	n := len(p.Slots)
	cycle := n * p.Cycle
	return []int{
		-1, 0, 1, 2, n - 1, n, n + 1, cycle - 1, cycle, cycle + 1, 2*cycle + n + 1, 1000003, two30 - 1, two30, two30 + 1,
		-n, -cycle, -two30, 1 << 31, 1<<32 + 1, 1 << 53, 1 << 62, math.MaxInt, math.MaxInt - 1, math.MinInt, math.MinInt + 1,
	}
}

func TestH3OfAllSpots(t *testing.T) {
	for _, p := range plans() {
		l := spots(p)
		for _, slots := range manySlots(p) {
			for _, s := range l {
				if slots < 0 || slots > two30 || !may(p, s) {
					goesOn(t, p, s, slots, api.Spot{}, api.ErrArg)
					continue
				}
				want, fault := laterOf(p, s, slots), api.OK
				if !may(p, want) {
					want, fault = api.Spot{}, api.ErrArg
				}
				goesOn(t, p, s, slots, want, fault)
			}
		}
	}
}

// Slot by slot, from the first one of cycle 0 on.
func TestH3OfEachSlot(t *testing.T) {
	for _, p := range plans() {
		first := api.Spot{Tick: p.Slots[0].Ticks - 1}
		want := nextSlot(p, first)
		for slots := 1; slots <= 2*len(p.Slots)*p.Cycle+1; slots++ {
			goesOn(t, p, first, slots, want, api.OK)
			goesOn(t, p, api.Spot{}, slots, want, api.OK)
			want = nextSlot(p, want)
		}
	}
}

func TestH3AtItsBound(t *testing.T) {
	for _, p := range plans() {
		last := lastSpot(p)
		goesOn(t, p, last, 0, last, api.OK)
		goesOn(t, p, last, 1, api.Spot{}, api.ErrArg)
		goesOn(t, p, last, two30, api.Spot{}, api.ErrArg)
		goesOn(t, p, next(p, last), 0, api.Spot{}, api.ErrArg)
		begun := last
		begun.Tick = 0
		before := spotOf(p, int(timeOf(p, begun).Int64())-1)
		goesOn(t, p, before, 1, begun, api.OK)
		goesOn(t, p, before, 2, api.Spot{}, api.ErrArg)
	}
	// By slots of one tick each, the later one's time is 2^40, and one more.
	p := even(2, 1, 1)
	goesOn(t, p, spotOf(p, two40-two30), two30, lastSpot(p), api.OK)
	goesOn(t, p, spotOf(p, two40-two30+1), two30, api.Spot{}, api.ErrArg)
	goesOn(t, p, spotOf(p, two40-1), 1, lastSpot(p), api.OK)
}

func TestH3ByAPlanThatIsNotRight(t *testing.T) {
	for _, p := range wrongPlans() {
		for _, slots := range []int{-1, 0, 1, two30, two30 + 1} {
			for _, s := range []api.Spot{{}, {Tick: 1}, {Round: 1}, {Slot: 1}, {Cycle: 7}, {Slot: 16}, {Cycle: -1}, {Cycle: math.MaxInt}} {
				goesOn(t, p, s, slots, api.Spot{}, api.ErrArg)
			}
		}
	}
}

func TestH4AtUndoesTimeAndTimeAt(t *testing.T) {
	for _, p := range plans() {
		for _, n := range times(p) {
			s, e := sched.At(p, n)
			if back, f := sched.Time(p, s); e == api.OK && (back != n || f != api.OK) {
				t.Errorf("%v: time %d is %v, and that %d, %d", p, n, s, back, f)
			}
		}
		for _, s := range spots(p) {
			n, e := sched.Time(p, s)
			if back, f := sched.At(p, n); e == api.OK && (back != s || f != api.OK) {
				t.Errorf("%v: %v is time %d, and that %v, %d", p, s, n, back, f)
			}
		}
	}
}

// A node's slots, one in each round, begin as many ticks apart as a round has.
func TestH4EachNodeHasOneSlotInEachRound(t *testing.T) {
	for _, p := range plans() {
		round := sched.Round(p)
		for _, node := range nodes() {
			place, has := sched.Slot(p, node)
			if has != (sched.Nodes(p)&vector(api.Plan{Slots: []api.Slot{{Node: node}}}) != 0) {
				t.Errorf("%v: node %d: %t", p, node, has)
			}
			if !has {
				continue
			}
			s := api.Spot{Slot: place}
			first, _ := sched.Time(p, s)
			for k := range 3 * p.Cycle {
				if n, e := sched.Time(p, s); n != first+k*round || e != api.OK {
					t.Errorf("%v: node %d: %d times a round: %d, %d", p, node, k, n, e)
				}
				s, _ = sched.Later(p, s, len(p.Slots))
			}
			if begins(p, place) != 3 {
				t.Errorf("%v: node %d has %d slots in three rounds", p, node, begins(p, place))
			}
		}
	}
}

// begins is how often the slot at a place begins in the first three rounds.
func begins(p api.Plan, place int) int {
	count := 0
	for time := range 3 * sched.Round(p) {
		if s, _ := sched.At(p, time); s.Slot == place && s.Tick == 0 {
			count++
		}
	}
	return count
}

func TestH4SoManyAndSoManyAgainIsBothTogether(t *testing.T) {
	chance := rand.New(rand.NewSource(4))
	for _, p := range plans() {
		for range 2000 {
			s := spotOf(p, chance.Intn(two40-two30*1000+1))
			a, b := chance.Intn(two30/2+1), chance.Intn(two30/2+1)
			if chance.Intn(2) == 0 {
				a, b = a%100, b%100
			}
			first, _ := sched.Later(p, s, a)
			apart, e := sched.Later(p, first, b)
			together, f := sched.Later(p, s, a+b)
			if apart != together || e != f {
				t.Errorf("%v: %v: %d and %d: %v, %d, not %v, %d", p, s, a, b, apart, e, together, f)
			}
		}
	}
}

// called is all that the calls answer of a plan.
func called(p api.Plan) []any {
	var l []any
	l = append(l, sched.Right(p), sched.Nodes(p), sched.Round(p))
	for _, n := range nodes() {
		place, is := sched.Slot(p, n)
		l = append(l, place, is)
	}
	for _, n := range []int{-1, 0, 1, 4, 5, 12, 1003, 99999, two40, two40 + 1} {
		s, e := sched.At(p, n)
		l = append(l, s, e)
	}
	for _, s := range []api.Spot{{}, {Slot: 1}, {Cycle: 3, Round: 1, Slot: 1}, {Tick: -1}, {Cycle: math.MaxInt}, {Slot: 99}} {
		n, e := sched.Time(p, s)
		l = append(l, n, e)
		for _, slots := range []int{-1, 0, 1, 77, two30, two30 + 1} {
			later, e := sched.Later(p, s, slots)
			l = append(l, later, e)
		}
	}
	return l
}

// R3, R4: what is handed in stays as it was, and what stands behind its length; answers are the same again, and none is kept for a plan that was changed since.
func TestWhatIsHandedInStays(t *testing.T) {
	for _, p := range append(plans(), wrongPlans()...) {
		want := called(p)
		room := append(slices.Clone(p.Slots), api.Slot{Node: 3, Ticks: 3}, api.Slot{Node: -7, Ticks: 1})
		before := slices.Clone(room)
		handed := api.Plan{Slots: room[:len(p.Slots)], Cycle: p.Cycle}
		if got := called(handed); !reflect.DeepEqual(got, want) || !slices.Equal(room, before) {
			t.Errorf("%v: %v", p, room)
		}
		for k := range room {
			room[k] = api.Slot{Node: 15 - k, Ticks: k + 1}
		}
		other := api.Plan{Slots: slices.Clone(handed.Slots), Cycle: p.Cycle}
		if got := called(handed); !reflect.DeepEqual(got, called(other)) {
			t.Errorf("%v: %v", handed, got)
		}
	}
}
