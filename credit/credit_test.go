package credit_test

import (
	"fmt"
	"math"
	"math/rand"
	"slices"
	"testing"

	"omnibus/api"
	"omnibus/credit"
)

func uses(window int, out ...int) api.Credit { return api.Credit{Window: window, Out: out} }

// some are so many numbers, no two alike, which neither rise nor fall, the least and the greatest among the first four.
func some(many int) []int {
	l := []int{7, 65535, 3, 1}
	for k := len(l); k < many; k++ {
		l = append(l, 1000+k*7919%64000)
	}
	return l[:many]
}

// windows are ordinary ones, the edges, and what goes far beyond.
func windows() []int {
	return []int{
		-1, 0, 1, 2, 3, 4, 15, 16, 17, 18, 32, 33, 255, 256, 257, 272, 65535, 65536, 65537,
		-2, -16, -17, -256, 1 << 31, 1 << 32, 1<<32 + 1, 1<<32 + 16, math.MaxInt - 1, math.MaxInt, math.MinInt, math.MinInt + 1, math.MinInt + 4,
	}
}

func isWindow(n int) bool { return n >= 1 && n <= 16 }

// numbers are those of messages, the edges, and what goes far beyond.
func numbers() []int {
	return []int{
		0, 1, 2, 3, 4, 7, 8, 255, 256, 263, 1000, 32767, 32768, 65534, 65535, 65536, 65537, 65543,
		-1, -2, -7, -65535, -65536, 1 << 31, 1 << 32, 1<<32 + 7, math.MaxInt - 1, math.MaxInt, math.MinInt, math.MinInt + 1, math.MinInt + 7,
	}
}

// wrongNumbers may not be out.
func wrongNumbers() []int {
	return slices.DeleteFunc(numbers(), func(n int) bool { return n >= 1 && n <= 65535 })
}

// wrongCredits may not be: by Window, by how many are out, by one of these, by two that are alike.
func wrongCredits() []api.Credit {
	l := []api.Credit{
		{}, uses(0, 7), uses(-1), uses(17), uses(17, 7), uses(17, some(17)...), uses(256), uses(1<<32 + 4), uses(math.MaxInt, some(2)...), uses(math.MinInt), uses(math.MinInt, 7),
		uses(1, some(2)...), uses(4, some(5)...), uses(15, some(16)...), uses(16, some(17)...), uses(2, some(200)...),
		uses(2, 7, 7), uses(16, 7, 7), uses(4, 7, 7, 8), uses(4, 8, 7, 7), uses(4, 7, 8, 7), uses(16, append(some(15), 7)...), uses(16, append(some(14), 1, 1)...),
	}
	for _, n := range wrongNumbers() {
		l = append(l, uses(1, n), uses(4, n), uses(4, n, 7), uses(4, 7, n), uses(4, 7, n, 8), uses(3, 7, 8, n))
	}
	return l
}

// rightCredits are those of which nothing, some and all is used.
func rightCredits() []api.Credit {
	l := []api.Credit{{Window: 4, Out: []int{}}, uses(2, 65535, 1), uses(16, 1, 2, 3, 4, 5, 6, 7, 8, 9, 10, 11, 12, 13, 14, 15, 16), uses(3, 3, 2, 1)}
	for _, window := range []int{1, 2, 3, 4, 8, 15, 16} {
		for many := range window + 1 {
			l = append(l, uses(window, some(many)...))
		}
	}
	return l
}

func credits() []api.Credit { return append(wrongCredits(), rightCredits()...) }

// right is O1's, by its words.
func right(c api.Credit) bool {
	if !isWindow(c.Window) || len(c.Out) > c.Window {
		return false
	}
	seen := map[int]bool{}
	for _, n := range c.Out {
		if n < 1 || n > 65535 || seen[n] {
			return false
		}
		seen[n] = true
	}
	return true
}

// left is O1's, by its words.
func left(c api.Credit) int {
	if right(c) {
		return c.Window - len(c.Out)
	}
	return 0
}

// taken is O2's, by its words.
func taken(c api.Credit, number int) (api.Credit, api.Errno) {
	switch {
	case !right(c), number < 1, number > 65535:
		return c, 1
	case slices.Contains(c.Out, number):
		return c, 42
	case len(c.Out) == c.Window:
		return c, 40
	}
	return uses(c.Window, append(slices.Clone(c.Out), number)...), 0
}

// given is O3's Give, by its words.
func given(c api.Credit, l []int) (api.Credit, int, api.Errno) {
	if !right(c) {
		return c, 0, 1
	}
	among := map[int]bool{}
	for _, n := range l {
		among[n] = true
	}
	less, many := uses(c.Window), 0
	for _, n := range c.Out {
		if among[n] {
			many++
		} else {
			less.Out = append(less.Out, n)
		}
	}
	return less, many, 0
}

// reset is O3's Reset, by its words.
func reset(c api.Credit) (api.Credit, []int, api.Errno) {
	if !right(c) {
		return c, nil, 1
	}
	return uses(c.Window), c.Out, 0
}

func same(a, b api.Credit) bool { return a.Window == b.Window && slices.Equal(a.Out, b.Out) }

func copied(c api.Credit) api.Credit { return uses(c.Window, slices.Clone(c.Out)...) }

// takes holds an answer of Take against the one that is asked for, gives one of Give, resets one of Reset.
func takes(t *testing.T, c api.Credit, number int, want api.Credit, fault api.Errno) {
	t.Helper()
	got, e := credit.Take(c, number)
	if !same(got, want) || e != fault {
		t.Errorf("Take of %d, %v: %v, %d, not %v, %d", number, c, got, e, want, fault)
	}
}

func gives(t *testing.T, c api.Credit, l []int, want api.Credit, many int, fault api.Errno) {
	t.Helper()
	got, n, e := credit.Give(c, l...)
	if !same(got, want) || n != many || e != fault {
		t.Errorf("Give of %v, %v: %v, %d, %d, not %v, %d, %d", l, c, got, n, e, want, many, fault)
	}
}

func resets(t *testing.T, c, want api.Credit, out []int, fault api.Errno) {
	t.Helper()
	got, l, e := credit.Reset(c)
	if !same(got, want) || !slices.Equal(l, out) || e != fault {
		t.Errorf("Reset of %v: %v, %v, %d, not %v, %v, %d", c, got, l, e, want, out, fault)
	}
}

func TestTheExample(t *testing.T) {
	c, _ := credit.New(2)
	takes(t, c, 5, uses(2, 5), 0)
	takes(t, uses(2, 5), 7, uses(2, 5, 7), 0)
	takes(t, uses(2, 5, 7), 9, uses(2, 5, 7), api.ErrFull)
	gives(t, uses(2, 5, 7), []int{5}, uses(2, 7), 1, 0)
	takes(t, uses(2, 7), 9, uses(2, 7, 9), 0)
}

func TestO1New(t *testing.T) {
	for window, fault := range map[int]api.Errno{
		0: 1, 1: 0, 2: 0, 3: 0, 8: 0, 15: 0, 16: 0, 17: 1, 18: 1, 32: 1, -1: 1, -16: 1, 256 + 4: 1, 65536 + 4: 1, 1<<32 + 4: 1, math.MaxInt: 1, math.MinInt: 1, math.MinInt + 4: 1,
	} {
		want := api.Credit{}
		if fault == api.OK {
			want.Window = window
		}
		c, e := credit.New(window)
		if !same(c, want) || e != fault || credit.Right(c) != (fault == api.OK) || credit.Left(c) != want.Window {
			t.Errorf("%d: %v, %d", window, c, e)
		}
	}
}

func isRight(t *testing.T, name string, c api.Credit, want bool) {
	t.Helper()
	if got := credit.Right(c); got != want {
		t.Errorf("%s: %v: %t", name, c, got)
	}
}

func TestO1RightByWindow(t *testing.T) {
	for _, window := range windows() {
		isRight(t, "without Out", uses(window), isWindow(window))
		isRight(t, "of none", api.Credit{Window: window, Out: []int{}}, isWindow(window))
		for _, many := range []int{1, 2, 4, 15, 16, 17, 18, 100} {
			isRight(t, "of some", uses(window, some(many)...), isWindow(window) && many <= window)
		}
	}
	for window := range 19 {
		isRight(t, "all of it used", uses(window, some(window)...), isWindow(window))
		isRight(t, "one more", uses(window, some(window+1)...), false)
	}
}

func TestO1RightByNumbers(t *testing.T) {
	for _, n := range append(numbers(), 5, 30000) {
		is := n >= 1 && n <= 65535
		isRight(t, "alone", uses(1, n), is)
		isRight(t, "ahead", uses(3, n, 77, 78), is)
		isRight(t, "between", uses(3, 77, n, 78), is)
		isRight(t, "behind", uses(3, 77, 78, n), is)
		for at := range 16 {
			l := some(17)[1:]
			l[at] = n
			isRight(t, "one of 16", uses(16, l...), is && !slices.Contains(l[:at], n) && !slices.Contains(l[at+1:], n))
		}
	}
}

func TestO1RightByTwoAlike(t *testing.T) {
	for many := 2; many <= 16; many++ {
		for at := range many {
			for other := range at {
				for _, window := range []int{many, 16} {
					l := some(many)
					isRight(t, "no two alike", uses(window, l...), true)
					l[at] = l[other]
					isRight(t, "two alike", uses(window, l...), false)
				}
			}
		}
		isRight(t, "all alike", uses(16, slices.Repeat([]int{5}, many)...), false)
	}
	// Numbers that are alike in their lower bits are not.
	isRight(t, "alike but for a bit", uses(4, 1, 257, 32769, 33025), true)
}

func TestO1Left(t *testing.T) {
	for window := 1; window <= 16; window++ {
		for used := range window + 1 {
			if got := credit.Left(uses(window, some(used)...)); got != window-used {
				t.Errorf("%d of %d are used: %d", used, window, got)
			}
		}
	}
	for _, c := range wrongCredits() {
		if got := credit.Left(c); got != 0 {
			t.Errorf("%v: %d", c, got)
		}
	}
}

func TestO1OfAll(t *testing.T) {
	for _, c := range credits() {
		if credit.Right(c) != right(c) || credit.Left(c) != left(c) {
			t.Errorf("%v: %t, %d", c, credit.Right(c), credit.Left(c))
		}
	}
}

func TestO2Take(t *testing.T) {
	for _, n := range []int{1, 2, 5, 255, 256, 65534, 65535} {
		takes(t, uses(1), n, uses(1, n), 0)
		takes(t, uses(16), n, uses(16, n), 0)
		takes(t, api.Credit{Window: 4, Out: []int{}}, n, uses(4, n), 0)
		takes(t, uses(3, 77, 66), n, uses(3, 77, 66, n), 0)
		takes(t, uses(16, 77, 66), n, uses(16, 77, 66, n), 0)
	}
	// One is left.
	for window := 1; window <= 16; window++ {
		l := some(window)
		takes(t, uses(window, l[:window-1]...), l[window-1], uses(window, l...), 0)
		takes(t, uses(window, l[:window-1]...), 500, uses(window, append(l[:window-1:window-1], 500)...), 0)
	}
}

func TestO2TwiceAndFull(t *testing.T) {
	for window := 1; window <= 16; window++ {
		for used := range window + 1 {
			c := uses(window, some(used)...)
			for _, n := range c.Out {
				takes(t, c, n, c, 42)
			}
			if used == window {
				takes(t, c, 500, c, 40)
				takes(t, c, 65534, c, 40)
			}
		}
	}
}

func TestO2WrongNumbers(t *testing.T) {
	for _, n := range wrongNumbers() {
		for _, c := range rightCredits() {
			takes(t, c, n, c, 1)
		}
	}
}

// What is not right is refused as that, also where the number is out, or nothing is left.
func TestO2WrongCredits(t *testing.T) {
	for _, c := range wrongCredits() {
		for _, n := range slices.Concat(numbers(), some(5), c.Out[:min(len(c.Out), 20)]) {
			takes(t, c, n, c, 1)
		}
	}
}

func TestO2OfAll(t *testing.T) {
	for _, c := range credits() {
		for _, n := range append(numbers(), some(16)...) {
			want, fault := taken(c, n)
			takes(t, c, n, want, fault)
			if fault == api.OK && (!credit.Right(want) || credit.Left(want) != credit.Left(c)-1) {
				t.Errorf("%v is not right", want)
			}
		}
	}
}

func TestO3Give(t *testing.T) {
	c := uses(5, 7, 65535, 3, 1)
	for _, x := range []struct {
		l, out []int
	}{
		{nil, []int{7, 65535, 3, 1}},
		{[]int{}, []int{7, 65535, 3, 1}},
		{[]int{7}, []int{65535, 3, 1}},
		{[]int{65535}, []int{7, 3, 1}},
		{[]int{3}, []int{7, 65535, 1}},
		{[]int{1}, []int{7, 65535, 3}},
		{[]int{1, 7}, []int{65535, 3}},
		{[]int{7, 1}, []int{65535, 3}},
		{[]int{3, 65535}, []int{7, 1}},
		{[]int{65535, 3}, []int{7, 1}},
		{[]int{3, 1}, []int{7, 65535}},
		{[]int{65535, 7}, []int{3, 1}},
		{[]int{1, 3, 7}, []int{65535}},
		{[]int{7, 65535, 3, 1}, nil},
		{[]int{1, 3, 65535, 7}, nil},
		{[]int{3, 7, 1, 65535}, nil},
		// One that is not out, alone, and beside others.
		{[]int{8}, []int{7, 65535, 3, 1}},
		{[]int{8, 9, 500}, []int{7, 65535, 3, 1}},
		{[]int{8, 3, 9}, []int{7, 65535, 1}},
		{[]int{1, 8, 7}, []int{65535, 3}},
		// Twice in one call.
		{[]int{3, 3}, []int{7, 65535, 1}},
		{[]int{3, 8, 3}, []int{7, 65535, 1}},
		{[]int{1, 7, 1, 7, 7}, []int{65535, 3}},
		{[]int{8, 8}, []int{7, 65535, 3, 1}},
		{[]int{7, 65535, 3, 1, 1, 3, 65535, 7}, nil},
		// What is no number.
		{[]int{0, -1, -3, -7, 65536, 65536 + 7, 1<<32 + 3, math.MaxInt, math.MinInt, math.MinInt + 1}, []int{7, 65535, 3, 1}},
		{[]int{math.MaxInt, 3, math.MinInt}, []int{7, 65535, 1}},
		{[]int{-1, 1}, []int{7, 65535, 3}},
		{[]int{0, 7, 65536}, []int{65535, 3, 1}},
	} {
		gives(t, c, x.l, uses(5, x.out...), 4-len(x.out), 0)
	}
}

func TestO3GiveOfNothingAndOfOne(t *testing.T) {
	for _, l := range [][]int{nil, {}, {1}, {5}, {0, -1, math.MaxInt}, {5, 5}, some(16)} {
		gives(t, uses(1), l, uses(1), 0, 0)
		gives(t, api.Credit{Window: 16, Out: []int{}}, l, uses(16), 0, 0)
		if slices.Contains(l, 5) {
			gives(t, uses(1, 5), l, uses(1), 1, 0)
			gives(t, uses(16, 5), l, uses(16), 1, 0)
		} else {
			gives(t, uses(1, 5), l, uses(1, 5), 0, 0)
			gives(t, uses(16, 5), l, uses(16, 5), 0, 0)
		}
	}
}

// Each set of those that are out, in an order of its own.
func TestO3GiveOfEachSet(t *testing.T) {
	chance := rand.New(rand.NewSource(3))
	for _, many := range []int{0, 1, 2, 3, 7, 10, 16} {
		out := some(many)
		for set := 0; set < 1<<many; set++ {
			var stay, back []int
			for k, n := range out {
				if set>>k&1 == 1 {
					back = append(back, n)
				} else {
					stay = append(stay, n)
				}
			}
			back = append(back, back[:chance.Intn(len(back)+1)]...)
			chance.Shuffle(len(back), func(i, j int) { back[i], back[j] = back[j], back[i] })
			gives(t, uses(16, out...), back, uses(16, stay...), many-len(stay), 0)
		}
	}
}

func TestO3GiveOfManyNumbers(t *testing.T) {
	var all []int
	for n := -100000; n <= 100000; n++ {
		all = append(all, n)
	}
	for _, c := range rightCredits() {
		gives(t, c, all, uses(c.Window), len(c.Out), 0)
		gives(t, c, slices.Concat(all, all), uses(c.Window), len(c.Out), 0)
		gives(t, c, all[:100001], c, 0, 0)
		gives(t, c, all[165536:], c, 0, 0)
		gives(t, c, slices.Repeat([]int{500}, 100000), c, 0, 0)
	}
	gives(t, uses(3, 7, 8, 9), append(slices.Repeat([]int{8}, 100000), 7), uses(3, 9), 2, 0)
}

func TestO3Wrong(t *testing.T) {
	for _, c := range wrongCredits() {
		resets(t, c, c, nil, 1)
		for _, l := range [][]int{nil, {}, {7}, {1, 8}, {0, 65536}, numbers(), some(16), c.Out} {
			gives(t, c, l, c, 0, 1)
		}
	}
}

func TestO3Reset(t *testing.T) {
	resets(t, uses(1), uses(1), nil, 0)
	resets(t, api.Credit{Window: 4, Out: []int{}}, uses(4), nil, 0)
	resets(t, uses(1, 5), uses(1), []int{5}, 0)
	resets(t, uses(16, 65535, 1, 7), uses(16), []int{65535, 1, 7}, 0)
	for window := 1; window <= 16; window++ {
		for used := range window + 1 {
			resets(t, uses(window, some(used)...), uses(window), some(used), 0)
		}
	}
}

func TestO3OfAll(t *testing.T) {
	lists := [][]int{nil, {}, numbers(), some(1), some(5), some(16), {65535, 7}, {3, 3}, {1, 2, 3, 2, 1}}
	for _, n := range numbers() {
		lists = append(lists, []int{n}, []int{n, n}, []int{7, n, 1})
	}
	for _, c := range credits() {
		want, out, fault := reset(c)
		resets(t, c, want, out, fault)
		for _, l := range lists {
			want, many, fault := given(c, l)
			gives(t, c, l, want, many, fault)
			if fault == api.OK && (!credit.Right(want) || credit.Left(want) != credit.Left(c)+many) {
				t.Errorf("%v is not right", want)
			}
		}
	}
}

// Many are taken and given back, some of them twice, in any order: what is out is what was taken, and not given back since, in that order, Window at most.
func TestO4ManyTakenAndGivenBack(t *testing.T) {
	chance := rand.New(rand.NewSource(15))
	for range 400 {
		window := 1 + chance.Intn(16)
		c, _ := credit.New(window)
		var out []int
		for range 200 {
			if chance.Intn(3) > 0 {
				n := 1 + chance.Intn(24)
				next, e := credit.Take(c, n)
				if e == api.OK {
					out = append(out, n)
				} else if e != 42 && e != 40 || e == 42 != slices.Contains(out, n) || e == 40 && len(out) < window {
					t.Fatalf("%d of %v: %d", n, c, e)
				}
				c = next
			} else {
				back := back(chance)
				next, many, e := credit.Give(c, back...)
				was := len(out)
				out = slices.DeleteFunc(out, func(n int) bool { return slices.Contains(back, n) })
				if e != api.OK || many != was-len(out) {
					t.Fatalf("%v of %v: %d, %d", back, c, many, e)
				}
				c = next
			}
			if !same(c, uses(window, out...)) || len(out) > window || !credit.Right(c) || credit.Left(c) != window-len(out) {
				t.Fatalf("%v, not %v of %d", c, out, window)
			}
		}
		resets(t, c, uses(window), out, 0)
	}
}

// back are some numbers that are given back, now and then one of them twice.
func back(chance *rand.Rand) []int {
	var l []int
	for range chance.Intn(6) {
		l = append(l, chance.Intn(26))
	}
	if len(l) > 0 && chance.Intn(2) == 0 {
		l = append(l, l[chance.Intn(len(l))])
	}
	return l
}

func TestO4GivenBackTwiceItCountsOnce(t *testing.T) {
	for _, c := range rightCredits() {
		for _, n := range c.Out {
			want, _, _ := given(c, []int{n})
			gives(t, c, []int{n}, want, 1, 0)
			gives(t, c, []int{n, n}, want, 1, 0)
			less, _, _ := credit.Give(c, n)
			gives(t, less, []int{n}, want, 0, 0)
			gives(t, less, []int{n, n}, want, 0, 0)
			// It may be taken again, and is the last one then.
			takes(t, less, n, uses(c.Window, append(slices.Clone(want.Out), n)...), 0)
		}
	}
}

func TestO4NeverMoreThanWindow(t *testing.T) {
	for window := 1; window <= 16; window++ {
		c, _ := credit.New(window)
		for n := 1; n <= 65535; n += 13 {
			next, e := credit.Take(c, n)
			full := len(c.Out) == window
			if full && (e != 40 || !same(next, c)) || !full && (e != 0 || len(next.Out) != len(c.Out)+1) {
				t.Fatalf("%d of %v: %v, %d", n, c, next, e)
			}
			if c = next; n%5 == 0 {
				c, _, _ = credit.Give(c, c.Out[0], c.Out[0])
			}
		}
	}
}

// Calls of all kinds, one behind the other: each answers by its words, and what comes of right credit is right.
func TestO4AllCalls(t *testing.T) {
	chance := rand.New(rand.NewSource(51))
	for range 300 {
		c, _ := credit.New(1 + chance.Intn(16))
		for range 100 {
			var got, want string
			var next api.Credit
			switch chance.Intn(12) {
			case 0:
				g, l, e := credit.Reset(c)
				h, out, fault := reset(c)
				next, got, want = g, fmt.Sprint(g, l, e), fmt.Sprint(h, out, fault)
			case 1, 2, 3:
				l := back(chance)
				g, n, e := credit.Give(c, l...)
				h, many, fault := given(c, l)
				next, got, want = g, fmt.Sprint(g, n, e), fmt.Sprint(h, many, fault)
			default:
				n := chance.Intn(26)
				g, e := credit.Take(c, n)
				h, fault := taken(c, n)
				next, got, want = g, fmt.Sprint(g, e), fmt.Sprint(h, fault)
			}
			if got != want || !credit.Right(next) {
				t.Fatalf("%v: %s, not %s", c, got, want)
			}
			c = next
		}
	}
}

// R3: what is handed in stays as it was, what stands behind it too.
func TestWhatIsHandedInStays(t *testing.T) {
	for _, c := range credits() {
		all := append(slices.Clone(c.Out), 901, 902, 903, 904)
		before := slices.Clone(all)
		c.Out = all[:len(c.Out)]
		handed := append(some(16), 500, 7, 0, math.MaxInt)
		credit.Right(c)
		credit.Left(c)
		credit.Reset(c)
		credit.Give(c)
		credit.Give(c, c.Out...)
		for n := range len(handed) {
			credit.Take(c, handed[n])
			credit.Give(c, handed[:n]...)
			credit.Give(c, handed[n:]...)
		}
		if !slices.Equal(all, before) || !slices.Equal(handed, append(some(16), 500, 7, 0, math.MaxInt)) {
			t.Fatalf("%v: %v, %v", before, all, handed)
		}
	}
}

// answer is what a call tells without an error: what is out then, and what was.
type answer struct{ out, was []int }

// answers are what calls tell of right credit, by their names.
func answers(c api.Credit, back []int) map[string]func() answer {
	give := func(l ...int) func() answer {
		return func() answer {
			got, _, _ := credit.Give(c, l...)
			return answer{out: got.Out}
		}
	}
	all := map[string]func() answer{
		"Reset": func() answer {
			got, l, _ := credit.Reset(c)
			return answer{got.Out, l}
		},
		"Give of none":   give(),
		"Give of others": give(500, 501),
		"Give of some":   give(back...),
		"Give of all":    give(c.Out...),
	}
	for _, n := range c.Out {
		all[fmt.Sprint("Give of ", n)] = give(n)
	}
	if len(c.Out) < c.Window {
		all["Take"] = func() answer {
			got, _ := credit.Take(c, 500)
			return answer{out: got.Out}
		}
	}
	return all
}

// spoil writes into all of a list, and into its spare room.
func spoil(l []int) {
	for k := range l[:cap(l)] {
		l[:cap(l)][k] = -9
	}
}

// R3: what comes out is its owner's, spare room too.
func TestWhatComesOutIsNewMemory(t *testing.T) {
	for _, c := range rightCredits() {
		handed := append(slices.Clone(c.Out), 901, 902, 903)
		before := slices.Clone(handed)
		c.Out = handed[:len(c.Out)]
		numbers := append(some(16), 500)
		back := numbers[:min(3, len(c.Out))]
		for name, call := range answers(c, back) {
			first, second := call(), call()
			out, was := slices.Clone(second.out), slices.Clone(second.was)
			spoil(first.out)
			if len(first.was) > 0 && !slices.Equal(first.was, was) {
				t.Errorf("%s of %v: its lists share memory", name, c)
			}
			spoil(first.was)
			third := call()
			for _, again := range []answer{second, third} {
				if !slices.Equal(again.out, out) || !slices.Equal(again.was, was) {
					t.Errorf("%s of %v: %v, not %v, %v", name, c, again, out, was)
				}
			}
			if !slices.Equal(handed, before) || !slices.Equal(numbers, append(some(16), 500)) {
				t.Fatalf("%s of %v: %v, %v", name, c, handed, numbers)
			}
		}
	}
	first, _ := credit.New(4)
	first.Out = append(first.Out, 5)
	if second, _ := credit.New(4); !same(second, uses(4)) {
		t.Errorf("%v", second)
	}
}

// Nothing of the room behind an empty Out is used for an answer.
func TestWhatComesOutOfAnEmptyOne(t *testing.T) {
	room := make([]int, 8)
	c := api.Credit{Window: 4, Out: room[:0]}
	for _, n := range []int{5, 6, 7} {
		got, e := credit.Take(c, n)
		if !same(got, uses(4, n)) || e != api.OK {
			t.Fatalf("%v, %d", got, e)
		}
		spoil(got.Out)
		less, l, _ := credit.Reset(c)
		other, _, _ := credit.Give(c, n)
		for _, out := range [][]int{less.Out, l, other.Out} {
			spoil(append(out, 5))
		}
		if !slices.Equal(room, make([]int, 8)) {
			t.Fatalf("%v", room)
		}
	}
}

// R1, R4: at all arguments calls end, and answer the same again; with an error the credit is as it was, and nothing else is told.
func TestRulesHoldAtAllArguments(t *testing.T) {
	for _, window := range windows() {
		c, e := credit.New(window)
		again, f := credit.New(window)
		if !same(c, again) || e != f || isWindow(window) != (e == api.OK) || e != api.OK && (e != 1 || !same(c, api.Credit{})) {
			t.Errorf("%d: %v, %d, and then %v, %d", window, c, e, again, f)
		}
	}
	l := append(credits(), uses(4, slices.Repeat(some(16), 5000)...), uses(16, slices.Repeat([]int{5}, 100000)...))
	for _, window := range windows() {
		l = append(l, uses(window), uses(window, some(2)...), uses(window, 7, 7), uses(window, 0), uses(window, 65536, 5))
	}
	for _, c := range l {
		was := copied(c)
		for range 2 {
			for _, n := range numbers() {
				want, fault := taken(c, n)
				takes(t, c, n, want, fault)
			}
			for _, back := range [][]int{nil, numbers(), some(16), c.Out} {
				want, many, fault := given(c, back)
				gives(t, c, back, want, many, fault)
			}
			want, out, fault := reset(c)
			resets(t, c, want, out, fault)
			if credit.Right(c) != right(c) || credit.Left(c) != left(c) {
				t.Errorf("%v: %t, %d", c, credit.Right(c), credit.Left(c))
			}
		}
		if !same(c, was) {
			t.Errorf("%v is %v now", was, c)
		}
	}
}
