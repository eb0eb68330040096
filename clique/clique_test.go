package clique_test

import (
	"math"
	"math/big"
	"math/rand"
	"slices"
	"testing"

	"omnibus/api"
	"omnibus/clique"
)

const two30 = 1 << 30

// far are numbers at which sums may go round.
func far() []int {
	return []int{math.MinInt, math.MinInt + 1, math.MinInt/2 - 1, -1 << 32, 1 << 32, 1<<32 + 3, math.MaxInt / 2, math.MaxInt/2 + 1, math.MaxInt - 1, math.MaxInt}
}

// around are numbers, and the ones next to each.
func around(l ...int) []int {
	var all []int
	for _, n := range l {
		all = append(all, n-1, n, n+1)
	}
	return all
}

// places are nodes, and numbers that are none.
func places() []int { return append(around(-16, 0, 2, 7, 15, 17, 32, 64, 65536), far()...) }

// vectors are ordinary ones, the edges, and numbers that count as what they leave.
func vectors() []int {
	return append(around(0, 9, 0x5555, 32768, 65535, 65536+9, 131072, 1<<62+9, -9, -32768, -65535), far()...)
}

// ways are what may be heard, and numbers that are nothing of that.
func ways() []int { return append(around(0, 1, 2, 65537, -2), far()...) }

// counts are how many frames may have been heard, and numbers that hardly may.
func counts() []int {
	return append(around(-two30, -5, 0, 1, 15, 1000, two30, two30+7, 2*two30), far()...)
}

func isNode(n int) bool { return n >= 0 && n <= 15 }

// rest is what v leaves, divided by 65536, not below 0.
func rest(v int) int { return (v%65536 + 65536) % 65536 }

// power is 2 to n, of a node.
func power(n int) int {
	p := 1
	for range n {
		p *= 2
	}
	return p
}

// has tells whether a vector has a node, by chapter 3's words.
func has(v, n int) bool { return isNode(n) && rest(v)/power(n)%2 == 1 }

// with is a vector with a node, by chapter 3's words.
func with(v, n int) int {
	if has(v, n) {
		return rest(v)
	}
	return rest(v) + power(n)
}

// oneMore is a number's next, as great as it is.
func oneMore(n int) *big.Int { return new(big.Int).Add(big.NewInt(int64(n)), big.NewInt(1)) }

// counted is how many frames there are with one more, by L1's words.
func counted(n int) int {
	if n >= 1073741824 {
		return n
	}
	return n + 1
}

// heardOf is L1's, by its words.
func heardOf(e api.Ear, node, how int) api.Ear {
	switch {
	case !isNode(node):
		return e
	case how == 1:
		return api.Ear{Heard: with(e.Heard, node), Good: counted(e.Good), Bad: e.Bad}
	case how == 2:
		return api.Ear{Heard: e.Heard, Good: e.Good, Bad: counted(e.Bad)}
	}
	return e
}

// nextAge is L3's, by its words.
func nextAge(heard, place, age int) int {
	next := oneMore(age)
	switch {
	case has(heard, place):
		return 0
	case next.Cmp(big.NewInt(1000)) > 0:
		return 1000
	case next.Cmp(big.NewInt(1)) < 0:
		return 1
	}
	return int(next.Int64())
}

// aliveOf is L3's, by its words.
func aliveOf(patience int, ages []int) int {
	v := 0
	for place, age := range ages {
		if place <= 15 && age >= 0 && age <= patience {
			v += power(place)
		}
	}
	return v
}

// ackedOf is L4's, by its words.
func ackedOf(node int, heard []int) int {
	count := 0
	for _, v := range heard {
		if has(v, node) {
			count++
		}
	}
	return count
}

func hears(t *testing.T, e api.Ear, node, how int, want api.Ear) {
	t.Helper()
	if got := clique.Hear(e, node, how); got != want {
		t.Errorf("%v with %d of %d: %v, not %v", e, how, node, got, want)
	}
}

func stays(t *testing.T, good, bad int, want bool) {
	t.Helper()
	for _, heard := range []int{0, 9, 65535, -1, math.MaxInt} {
		if got := clique.Stays(api.Ear{Heard: heard, Good: good, Bad: bad}); got != want {
			t.Errorf("%d good and %d bad (heard %d): stays %t", good, bad, heard, got)
		}
	}
}

func ages(t *testing.T, heard int, l []int, want ...int) {
	t.Helper()
	if got := clique.Ages(heard, l...); !slices.Equal(got, want) {
		t.Errorf("Ages of %v, heard %d: %v, not %v", l, heard, got, want)
	}
}

func alive(t *testing.T, patience int, l []int, want int) {
	t.Helper()
	if got := clique.Alive(patience, l...); got != want {
		t.Errorf("Alive of %v, patience %d: %d, not %d", l, patience, got, want)
	}
}

func acked(t *testing.T, node int, l []int, want int) {
	t.Helper()
	if got := clique.Acked(node, l...); got != want {
		t.Errorf("Acked of %d in %v: %d, not %d", node, l, got, want)
	}
}

func isClear(t *testing.T, node, nodes int, l []int, want bool) {
	t.Helper()
	if got := clique.Clear(node, nodes, l...); got != want {
		t.Errorf("Clear of %d of %d nodes in %v: %t", node, nodes, l, got)
	}
}

func TestL1ARound(t *testing.T) {
	var e api.Ear
	for _, x := range []struct {
		node, how int
		want      api.Ear
	}{
		{0, api.Good, api.Ear{Heard: 1, Good: 1}},
		{1, api.Spoilt, api.Ear{Heard: 1, Good: 1, Bad: 1}},
		{2, api.Silent, api.Ear{Heard: 1, Good: 1, Bad: 1}},
		{3, api.Good, api.Ear{Heard: 9, Good: 2, Bad: 1}},
		{3, api.Good, api.Ear{Heard: 9, Good: 3, Bad: 1}},
		{3, api.Spoilt, api.Ear{Heard: 9, Good: 3, Bad: 2}},
		{15, api.Good, api.Ear{Heard: 32777, Good: 4, Bad: 2}},
		{15, api.Spoilt, api.Ear{Heard: 32777, Good: 4, Bad: 3}},
		{16, api.Good, api.Ear{Heard: 32777, Good: 4, Bad: 3}},
		{-1, api.Spoilt, api.Ear{Heard: 32777, Good: 4, Bad: 3}},
		{4, 3, api.Ear{Heard: 32777, Good: 4, Bad: 3}},
		{4, -1, api.Ear{Heard: 32777, Good: 4, Bad: 3}},
	} {
		hears(t, e, x.node, x.how, x.want)
		e = x.want
	}
}

func TestL1WhatIsNoNodeOrNothingHeard(t *testing.T) {
	for _, e := range []api.Ear{{}, {Heard: 9, Good: 2, Bad: 5}, {Heard: 65535, Good: two30, Bad: two30}, {Heard: -1, Good: -3, Bad: math.MinInt}, {Heard: 65536 + 9, Good: math.MaxInt, Bad: two30 + 1}} {
		for _, node := range append([]int{-2, -1, 16, 17, 31, 63, 64, 65, 65536, -65536}, far()...) {
			for _, how := range ways() {
				hears(t, e, node, how, e)
			}
		}
		for node := range 16 {
			for _, how := range append([]int{-2, -1, api.Silent, 3, 4, 65537}, far()...) {
				hears(t, e, node, how, e)
			}
		}
	}
}

func TestL1Heard(t *testing.T) {
	for _, x := range []struct{ heard, node, want int }{
		{0, 0, 1}, {0, 15, 32768}, {1, 0, 1}, {1, 15, 32769}, {9, 3, 9}, {9, 1, 11}, {32768, 15, 32768}, {65535, 0, 65535}, {65535, 15, 65535}, {65534, 0, 65535}, {32767, 15, 65535},
		// Numbers that count as what they leave.
		{65536, 0, 1}, {65536 + 9, 3, 9}, {65536 + 9, 15, 32777}, {-1, 5, 65535}, {-65536, 2, 4}, {math.MaxInt, 0, 65535}, {math.MinInt, 1, 2}, {1 << 32, 4, 16},
	} {
		hears(t, api.Ear{Heard: x.heard}, x.node, api.Good, api.Ear{Heard: x.want, Good: 1})
		hears(t, api.Ear{Heard: x.heard, Good: 7, Bad: 8}, x.node, api.Good, api.Ear{Heard: x.want, Good: 8, Bad: 8})
		// A frame that was spoilt tells nothing of who was heard.
		hears(t, api.Ear{Heard: x.heard, Good: 7, Bad: 8}, x.node, api.Spoilt, api.Ear{Heard: x.heard, Good: 7, Bad: 9})
	}
}

func TestL1GoodAndBadAreBounded(t *testing.T) {
	for _, x := range []struct{ n, want int }{
		{-1, 0}, {-2, -1}, {-two30, -two30 + 1}, {math.MinInt, math.MinInt + 1}, {0, 1}, {1, 2}, {65535, 65536},
		{two30 - 2, two30 - 1}, {two30 - 1, two30}, {two30, two30}, {two30 + 1, two30 + 1}, {2 * two30, 2 * two30}, {math.MaxInt - 1, math.MaxInt - 1}, {math.MaxInt, math.MaxInt},
	} {
		for _, other := range []int{0, 6, -6, two30 - 1, two30, two30 + 1, math.MaxInt, math.MinInt} {
			for _, node := range []int{0, 3, 4, 15} {
				hears(t, api.Ear{Heard: 8, Good: x.n, Bad: other}, node, api.Good, api.Ear{Heard: with(8, node), Good: x.want, Bad: other})
				hears(t, api.Ear{Heard: 8, Good: other, Bad: x.n}, node, api.Spoilt, api.Ear{Heard: 8, Good: other, Bad: x.want})
			}
		}
	}
}

func TestL1OfAllNumbers(t *testing.T) {
	for _, heard := range vectors() {
		for k, good := range counts() {
			bad := counts()[len(counts())-1-k]
			e := api.Ear{Heard: heard, Good: good, Bad: bad}
			for _, node := range places() {
				for _, how := range []int{math.MinInt, -1, 0, 1, 2, 3, math.MaxInt} {
					hears(t, e, node, how, heardOf(e, node, how))
				}
			}
		}
	}
}

func TestL2Stays(t *testing.T) {
	for _, x := range []struct {
		good, bad int
		want      bool
	}{
		{2, 3, false}, {2, 2, true}, {2, 1, true}, {2, 4, false}, {3, 2, true}, {0, 0, true}, {0, 1, false}, {0, 2, false}, {1, 0, true}, {1, 1, true}, {1, 2, false}, {15, 15, true}, {15, 16, false}, {7, 8, false}, {8, 7, true},
		{two30 - 1, two30, false}, {two30, two30, true}, {two30, two30 - 1, true}, {two30, two30 + 1, false}, {two30 - 1, two30 - 1, true}, {two30, 0, true}, {0, two30, false},
		{-1, 0, false}, {-1, -1, true}, {-2, -1, false}, {-1, -2, true}, {0, -1, true}, {-1, 1, false}, {1, -1, true},
		// One more, and differences, may go round.
		{math.MaxInt, math.MaxInt, true}, {math.MaxInt, math.MaxInt - 1, true}, {math.MaxInt - 1, math.MaxInt, false}, {math.MaxInt, 0, true}, {0, math.MaxInt, false}, {math.MaxInt, math.MinInt, true}, {math.MinInt, math.MaxInt, false},
		{math.MinInt, math.MinInt, true}, {math.MinInt, math.MinInt + 1, false}, {math.MinInt + 1, math.MinInt, true}, {math.MinInt, 0, false}, {0, math.MinInt, true}, {math.MaxInt, -1, true}, {-2, math.MaxInt, false}, {1, math.MinInt, true}, {math.MinInt, 1, false},
	} {
		stays(t, x.good, x.bad, x.want)
	}
}

func TestL2OfAllNumbers(t *testing.T) {
	for _, good := range counts() {
		for _, bad := range counts() {
			stays(t, good, bad, oneMore(good).Cmp(big.NewInt(int64(bad))) > 0)
		}
	}
}

func TestL3Ages(t *testing.T) {
	ages(t, 0, nil)
	ages(t, 65535, nil)
	ages(t, -1, []int{})
	ages(t, 0, []int{3}, 4)
	ages(t, 1, []int{3}, 0)
	ages(t, 2, []int{3}, 4)
	ages(t, 5, []int{3, 3, 3, -7, 999, 1000, 1001, 0}, 0, 4, 0, 1, 1000, 1000, 1000, 1)
	ages(t, 9, []int{0, 0, 1, 1}, 0, 1, 2, 0)
	ages(t, 32768, []int{0, 1, 2, 3, 4, 5, 6, 7, 8, 9, 10, 11, 12, 13, 14, 15}, 1, 2, 3, 4, 5, 6, 7, 8, 9, 10, 11, 12, 13, 14, 15, 0)
	ages(t, 32767, []int{0, 1, 2, 3, 4, 5, 6, 7, 8, 9, 10, 11, 12, 13, 14, 15}, 0, 0, 0, 0, 0, 0, 0, 0, 0, 0, 0, 0, 0, 0, 0, 16)
}

func TestL3OneAge(t *testing.T) {
	for _, x := range []struct{ age, want int }{
		{0, 1}, {1, 2}, {19, 20}, {997, 998}, {998, 999}, {999, 1000}, {1000, 1000}, {1001, 1000}, {1002, 1000}, {65536, 1000}, {1 << 32, 1000}, {math.MaxInt - 1, 1000}, {math.MaxInt, 1000},
		{-1, 1}, {-2, 1}, {-1000, 1}, {-1 << 32, 1}, {math.MinInt + 1, 1}, {math.MinInt, 1},
	} {
		for _, heard := range []int{0, 2, 65534, 65536, -65536, 1 << 32, -2, math.MaxInt - 1, math.MinInt} {
			ages(t, heard, []int{x.age}, x.want)
		}
		for _, heard := range []int{1, 3, 65535, 65537, -65535, 1<<32 + 1, -1, math.MaxInt, math.MinInt + 1} {
			ages(t, heard, []int{x.age}, 0)
		}
		for place := range 16 {
			l := slices.Repeat([]int{x.age}, 16)
			want := slices.Repeat([]int{x.want}, 16)
			want[place] = 0
			ages(t, power(place), l, want...)
			ages(t, power(place)+65536, l, want...)
			ages(t, power(place)-65536, l, want...)
		}
	}
}

func TestL3AgesOfTheFirst16Alone(t *testing.T) {
	for _, most := range []int{15, 16, 17, 18, 40, 1000} {
		l := slices.Repeat([]int{5}, most)
		n := min(most, 16)
		ages(t, 0, l, slices.Repeat([]int{6}, n)...)
		ages(t, 65536, l, slices.Repeat([]int{6}, n)...)
		ages(t, 131072, l, slices.Repeat([]int{6}, n)...)
		ages(t, 65535, l, slices.Repeat([]int{0}, n)...)
		ages(t, -1, l, slices.Repeat([]int{0}, n)...)
		ages(t, math.MaxInt, l, slices.Repeat([]int{0}, n)...)
	}
}

// someAges are lists of all lengths with ages of all kinds.
func someAges() [][]int {
	kinds := append(around(0, 3, 20, 999, 1000, 65536), far()...)
	l := [][]int{nil, {}}
	chance := rand.New(rand.NewSource(12))
	for range 20 {
		for _, n := range []int{1, 2, 3, 8, 15, 16, 17, 20} {
			one := make([]int, n)
			for place := range one {
				one[place] = kinds[chance.Intn(len(kinds))]
			}
			l = append(l, one)
		}
	}
	return l
}

func TestL3AgesOfAllNumbers(t *testing.T) {
	for _, l := range someAges() {
		for _, heard := range vectors() {
			var want []int
			for place, age := range l[:min(len(l), 16)] {
				want = append(want, nextAge(heard, place, age))
			}
			ages(t, heard, l, want...)
		}
	}
}

func TestL3Alive(t *testing.T) {
	for _, x := range []struct {
		patience int
		l        []int
		want     int
	}{
		{0, nil, 0}, {5, nil, 0}, {-1, nil, 0}, {math.MaxInt, []int{}, 0},
		{0, []int{0}, 1}, {0, []int{1}, 0}, {1, []int{1}, 1}, {0, []int{-1}, 0}, {-1, []int{-1}, 0}, {-1, []int{0}, 0}, {-2, []int{-3}, 0},
		{0, []int{0, 1, 0}, 5}, {1, []int{0, 1, 2, -1}, 3}, {2, []int{0, 1, 2, -1}, 7}, {3, []int{4, 3, 2, 5}, 6}, {20, []int{21, 20, 19}, 6},
		{999, []int{999, 1000, 1001}, 1}, {1000, []int{999, 1000, 1001}, 3}, {1001, []int{999, 1000, 1001}, 7},
		{math.MaxInt, []int{math.MaxInt, math.MinInt, 0, -1}, 5}, {math.MaxInt - 1, []int{math.MaxInt, math.MaxInt - 1}, 2}, {math.MinInt, []int{math.MinInt, 0, math.MaxInt}, 0},
	} {
		alive(t, x.patience, x.l, x.want)
	}
}

func TestL3AliveOfTheFirst16Alone(t *testing.T) {
	for _, most := range []int{15, 16, 17, 18, 40, 1000} {
		all := power(min(most, 16)) - 1
		alive(t, 5, make([]int, most), all)
		alive(t, 5, slices.Repeat([]int{5}, most), all)
		alive(t, 4, slices.Repeat([]int{5}, most), 0)
		alive(t, -1, make([]int, most), 0)
	}
	for place := range 20 {
		l := slices.Repeat([]int{7}, 20)
		l[place] = 6
		want := 0
		if place < 16 {
			want = power(place)
		}
		alive(t, 6, l, want)
	}
}

func TestL3AliveAtEachAge(t *testing.T) {
	for age := range 1002 {
		for _, place := range []int{0, 7, 15} {
			l := slices.Repeat([]int{-1}, 16)
			l[place] = age
			alive(t, age-1, l, 0)
			alive(t, age, l, power(place))
			alive(t, age+1, l, power(place))
		}
	}
}

func TestL3AliveOfAllNumbers(t *testing.T) {
	for _, l := range someAges() {
		for _, patience := range append(around(-20, 0, 3, 20, 999, 1000, 65536), far()...) {
			alive(t, patience, l, aliveOf(patience, l))
		}
	}
}

func TestL4Acked(t *testing.T) {
	many := []int{1, 3, 32768, 32769, 0, 65535, 8, 1}
	for _, x := range []struct {
		node int
		l    []int
		want int
	}{
		{0, nil, 0}, {15, []int{}, 0}, {-1, nil, 0}, {16, nil, 0},
		{0, []int{1}, 1}, {0, []int{2}, 0}, {1, []int{2}, 1}, {15, []int{32768}, 1}, {15, []int{32767}, 0}, {-1, []int{65535}, 0}, {16, []int{65535}, 0},
		{0, many, 5}, {1, many, 2}, {3, many, 2}, {15, many, 3}, {7, many, 1}, {-1, many, 0}, {16, many, 0}, {math.MaxInt, many, 0}, {math.MinInt, many, 0},
		{1, []int{2, 2, 1, 4}, 2}, {2, []int{2, 2, 1, 4}, 1}, {3, []int{2, 2, 1, 4}, 0},
		// Numbers that leave more than 16 bits, or are below 0.
		{0, []int{65536, 65537, 131073, -1, -65536, -65535, 1 << 32, 1<<32 + 1}, 5}, {15, []int{65536, 65536 + 32768, -1, -32768, -32769}, 3}, {16, []int{65536, 131072, -1}, 0}, {17, []int{1 << 17}, 0}, {63, []int{math.MinInt, -1}, 0}, {62, []int{math.MaxInt}, 0}, {0, []int{math.MaxInt, math.MinInt}, 1}, {-1, []int{math.MaxInt, -1, 65536}, 0},
		{4, slices.Repeat([]int{16}, 1000), 1000}, {5, slices.Repeat([]int{16}, 1000), 0},
	} {
		acked(t, x.node, x.l, x.want)
	}
}

func TestL4AckedOfAllNumbers(t *testing.T) {
	for _, node := range places() {
		for _, v := range vectors() {
			acked(t, node, []int{v}, ackedOf(node, []int{v}))
		}
		for n := range vectors() {
			acked(t, node, vectors()[:n], ackedOf(node, vectors()[:n]))
		}
	}
}

func TestL4Clear(t *testing.T) {
	for _, x := range []struct {
		node, nodes int
		l           []int
		want        bool
	}{
		{0, 1, nil, true}, {15, 1, nil, true}, {0, 2, nil, false}, {0, 2, []int{1}, true}, {0, 2, []int{2}, false}, {0, 3, []int{1}, true}, {0, 3, []int{2}, false}, {0, 3, nil, false}, {0, 4, []int{1}, false}, {0, 4, []int{1, 1}, true},
		{1, 5, []int{2, 2, 1, 4}, true}, {1, 6, []int{2, 2, 1, 4}, false}, {2, 3, []int{2, 2, 1, 4}, true}, {2, 4, []int{2, 2, 1, 4}, false},
		{-1, 1, nil, false}, {16, 1, nil, false}, {-1, 1, []int{65535, -1}, false}, {16, 1, []int{65535, 65536, -1}, false}, {math.MinInt, 1, nil, false}, {math.MaxInt, 1, nil, false},
		{0, 0, nil, false}, {0, 0, []int{1}, false}, {0, -1, []int{1}, false}, {0, 17, slices.Repeat([]int{1}, 20), false}, {0, 18, slices.Repeat([]int{1}, 20), false}, {0, math.MinInt, []int{1}, false}, {0, math.MaxInt, []int{1}, false}, {0, -2, nil, false},
		{15, 16, slices.Repeat([]int{32768}, 8), true}, {15, 16, slices.Repeat([]int{32768}, 7), false}, {15, 16, slices.Repeat([]int{32767}, 16), false}, {0, 16, slices.Repeat([]int{1}, 8), true}, {0, 16, slices.Repeat([]int{1}, 7), false}, {0, 15, slices.Repeat([]int{1}, 7), true}, {0, 15, slices.Repeat([]int{1}, 6), false},
		{0, 4, []int{65537, -1}, true}, {0, 4, []int{65536, -1}, false}, {0, 1, slices.Repeat([]int{1}, 1000), true},
	} {
		isClear(t, x.node, x.nodes, x.l, x.want)
	}
}

func TestL4JustMoreThanHalf(t *testing.T) {
	for node := range 16 {
		for nodes := 1; nodes <= 16; nodes++ {
			for n := range 20 {
				l := append(slices.Repeat([]int{power(node)}, n), 0, 65535-power(node), 65536)
				isClear(t, node, nodes, l, 2*(n+1) > nodes)
			}
		}
	}
}

func TestL4ClearOfAllNumbers(t *testing.T) {
	for _, node := range places() {
		for _, nodes := range append(around(-16, 0, 2, 5, 15, 17, 32), far()...) {
			for n := range 12 {
				l := vectors()[:3*n]
				isClear(t, node, nodes, l, isNode(node) && nodes >= 1 && nodes <= 16 && 2*(ackedOf(node, l)+1) > nodes)
			}
		}
	}
}

// earOf is what a node has heard in a round in which all others sent, and those of its part alone were heard well.
func earOf(node, nodes int, isOwn func(int) bool) api.Ear {
	var e api.Ear
	for other := range nodes {
		switch {
		case other == node:
			e = clique.Hear(e, other, api.Silent)
		case isOwn(other):
			e = clique.Hear(e, other, api.Good)
		default:
			e = clique.Hear(e, other, api.Spoilt)
		}
	}
	return e
}

// Whatever the parts are that all nodes fall into: only those of the greater one go on.
func TestL5TheGreaterPartAloneGoesOn(t *testing.T) {
	for nodes := 2; nodes <= 16; nodes++ {
		for part := range power(min(nodes, 10)) {
			one := countOf(part)
			for node := range nodes {
				isOne := has(part, node)
				own := one
				if !isOne {
					own = nodes - one
				}
				e := earOf(node, nodes, func(other int) bool { return has(part, other) == isOne })
				if got := clique.Stays(e); got != (own > nodes-own) {
					t.Errorf("node %d of %d, one part %d: stays %t", node, nodes, part, got)
				}
			}
		}
	}
}

// countOf is how many nodes a vector has.
func countOf(v int) int {
	count := 0
	for n := range 16 {
		if has(v, n) {
			count++
		}
	}
	return count
}

func TestL5LessAsManyAndMore(t *testing.T) {
	for _, x := range []struct {
		own, others int
		want        bool
	}{
		{1, 0, true}, {1, 1, false}, {2, 1, true}, {1, 2, false}, {2, 2, false}, {3, 2, true}, {2, 3, false}, {7, 8, false}, {8, 7, true}, {8, 8, false}, {9, 7, true}, {7, 9, false}, {1, 15, false}, {15, 1, true}, {16, 0, true},
	} {
		e := earOf(0, x.own+x.others, func(other int) bool { return other < x.own })
		if got := clique.Stays(e); got != x.want {
			t.Errorf("%d of their own, %d others: stays %t", x.own, x.others, got)
		}
		if want := (api.Ear{Heard: power(x.own) - 2, Good: x.own - 1, Bad: x.others}); e != want {
			t.Errorf("%d of their own, %d others: %v, not %v", x.own, x.others, e, want)
		}
	}
}

// A node that is heard each round is always alive, from whatever age on; one that is heard no more is for so many rounds.
func TestL5AliveAsPatienceSays(t *testing.T) {
	for _, patience := range []int{0, 1, 2, 3, 5, 19, 20, 100, 998, 999} {
		for place := range 16 {
			l := slices.Repeat([]int{1000}, 16)
			l[3] = -4
			for range 4 {
				l = clique.Ages(65535, l...)
				alive(t, patience, l, 65535)
			}
			for silent := 1; silent <= patience; silent++ {
				l = clique.Ages(65535-power(place), l...)
				alive(t, patience, l, 65535)
			}
			for range 3 {
				l = clique.Ages(65535-power(place), l...)
				alive(t, patience, l, 65535-power(place))
			}
			l = clique.Ages(65535, l...)
			alive(t, patience, l, 65535)
		}
	}
}

// A node that was not heard for long has the greatest age, and stays silent for all that patience may be.
func TestL5SilentForLong(t *testing.T) {
	l := make([]int, 16)
	for round := 1; round <= 1100; round++ {
		l = clique.Ages(1, l...)
		ages(t, 0, l[1:2], min(round+1, 1000))
		want := 1
		if round <= api.MaxPatience {
			want = 65535
		}
		alive(t, api.MaxPatience, l, want)
	}
}

// Which rounds a node is heard in is left to chance: it is alive, if it was in one of the last ones.
func TestL5AnyRounds(t *testing.T) {
	chance := rand.New(rand.NewSource(5))
	for range 200 {
		patience := chance.Intn(21)
		l := make([]int, 1+chance.Intn(16))
		last := make([]int, len(l))
		for round := 1; round <= 100; round++ {
			heard := chance.Intn(65536) & chance.Intn(65536) & chance.Intn(65536)
			l = clique.Ages(heard, l...)
			want := 0
			for place := range l {
				if has(heard, place) {
					last[place] = round
				}
				if round-last[place] <= patience {
					want += power(place)
				}
			}
			alive(t, patience, l, want)
		}
	}
}

// scribble writes into a list, and into its spare room.
func scribble(l []int) {
	for k := range l[:cap(l)] {
		l[:cap(l)][k] = -77
	}
}

// R3: what is handed in stays as it was, what stands behind it too, and what comes out is its owner's.
func TestWhatIsHandedInStays(t *testing.T) {
	for _, n := range []int{0, 1, 2, 3, 5, 8, 9, 15, 16, 17, 20} {
		all := []int{3, -3, 999, 1000, 1001, 65536, 0, 7, 9, 15, 16, -1, 1, 2, 3, 4, 5, 6, 7, 8, 9, 10}
		before := slices.Clone(all)
		heard := 0x5a5a
		first := clique.Ages(heard, all[:n]...)
		second := clique.Ages(heard, all[:n]...)
		want := slices.Clone(second)
		clique.Alive(5, all[:n]...)
		clique.Acked(1, all[:n]...)
		clique.Clear(1, 16, all[:n]...)
		if !slices.Equal(all, before) {
			t.Errorf("%d: %v, not %v", n, all, before)
		}
		scribble(first)
		scribble(append(first, 1))
		if !slices.Equal(all, before) || !slices.Equal(second, want) {
			t.Errorf("%d: memory that is shared: %v, %v", n, all, second)
		}
		scribble(all)
		if !slices.Equal(second, want) {
			t.Errorf("%d: memory that is kept: %v", n, second)
		}
		copy(all, before)
		ages(t, heard, all[:n], want...)
	}
}

// R1, R4: at all arguments calls end, and answer the same again, whatever was asked between.
func TestRulesHoldAtAllArguments(t *testing.T) {
	numbers := append(around(0, 15, 1000, two30), far()...)
	for _, a := range numbers {
		for _, b := range numbers {
			for _, c := range numbers {
				e := api.Ear{Heard: a, Good: b, Bad: c}
				for range 2 {
					hears(t, e, a, b, heardOf(e, a, b))
					hears(t, e, b%16, 1+c%2, heardOf(e, b%16, 1+c%2))
					ages(t, a, []int{b, c}, nextAge(a, 0, b), nextAge(a, 1, c))
					alive(t, a, []int{b, c}, aliveOf(a, []int{b, c}))
					acked(t, a, []int{b, c}, ackedOf(a, []int{b, c}))
					isClear(t, a, b, []int{c}, isNode(a) && b >= 1 && b <= 16 && 2*(ackedOf(a, []int{c})+1) > b)
				}
			}
		}
	}
}
