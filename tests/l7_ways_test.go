package tests

import (
	"math"
	"slices"
	"testing"

	"loop.example/opentables/impl"
)

var allKinds = []impl.Kind{impl.Even, impl.Rising, impl.Square}

// Numbers that are no sizes, no steps and no kinds, and for no ring homes.
var (
	noSizes = []int{math.MinInt, -16, -1, 0, 17, 18, 1 << 32, math.MaxInt}
	noSteps = []int{math.MinInt, -16, -1, 17, 18, 1 << 32, math.MaxInt}
	noKinds = []impl.Kind{math.MinInt, -2, -1, 3, 4, 1 << 32, math.MaxInt}
)

func noHomes(size int) []int {
	return []int{math.MinInt, -size, -1, size, size + 1, 1 << 32, math.MaxInt}
}

// timesOf tells how many times its step one has gone from home on, by the definition of each kind.
func timesOf(kind impl.Kind, i int) int {
	switch kind {
	case impl.Rising:
		return i * (i + 1) / 2
	case impl.Square:
		return i * i
	}
	return i
}

func trailOf(size int, kind impl.Kind, step int, home int) []int {
	var slots []int
	for i := range size {
		slots = append(slots, (home+step*timesOf(kind, i))%size)
	}
	return slots
}

func differentOf(list []int) int {
	return len(slices.Compact(slices.Sorted(slices.Values(list))))
}

// shareOf tries all numbers. It is for numbers that are not negative.
func shareOf(a int, b int) int {
	most := 0
	for number := 1; number <= max(a, b); number++ {
		if a%number == 0 && b%number == 0 {
			most = number
		}
	}
	return most
}

// eachRing calls a function for all sizes, kinds and steps that there are.
func eachRing(call func(size int, kind impl.Kind, step int)) {
	for size := 1; size <= 16; size++ {
		for _, kind := range allKinds {
			for step := range 17 {
				call(size, kind, step)
			}
		}
	}
}

func TestKinds(t *testing.T) {
	if !slices.Equal(allKinds, []impl.Kind{0, 1, 2}) {
		t.Errorf("kinds = %v", allKinds)
	}
}

func TestAllWays(t *testing.T) {
	eachRing(func(size int, kind impl.Kind, step int) {
		for home := range size {
			want := trailOf(size, kind, step, home)
			if got, ok := impl.WayOf(size, kind, step, home); !slices.Equal(got, want) || !ok {
				t.Fatalf("WayOf(%d, %d, %d, %d) = %v, %v, not %v", size, kind, step, home, got, ok, want)
			}
		}
	})
}

func TestAllReaches(t *testing.T) {
	eachRing(func(size int, kind impl.Kind, step int) {
		want := differentOf(trailOf(size, kind, step, 0))
		if got := impl.ReachOf(size, kind, step); got != want {
			t.Fatalf("ReachOf(%d, %d, %d) = %d, not %d", size, kind, step, got, want)
		}
		if got := impl.IsWhole(size, kind, step); got != (want == size) {
			t.Fatalf("IsWhole(%d, %d, %d) = %v, and %d slots are reached", size, kind, step, got, want)
		}
	})
}

// TestEvenWaysThatShareNothing holds the promise itself.
func TestEvenWaysThatShareNothing(t *testing.T) {
	for size := 1; size <= 16; size++ {
		var want []int
		for step := range 17 {
			shares := impl.ShareOf(step, size)
			if got := impl.IsWhole(size, impl.Even, step); got != (shares == 1) {
				t.Errorf("IsWhole(%d, Even, %d) = %v, and they share %d", size, step, got, shares)
			}
			if got := impl.ReachOf(size, impl.Even, step); got*shares != size {
				t.Errorf("ReachOf(%d, Even, %d) = %d, and they share %d", size, step, got, shares)
			}
			if shares == 1 && step < size {
				want = append(want, step)
			}
		}
		if got, ok := impl.WholeSteps(size); !slices.Equal(got, want) || !ok {
			t.Errorf("WholeSteps(%d) = %v, %v, not %v", size, got, ok, want)
		}
	}
}

func TestRisingWaysAreWholeInPowersOfTwo(t *testing.T) {
	for size := 1; size <= 16; size++ {
		power := size&(size-1) == 0
		if got := impl.IsWhole(size, impl.Rising, 1); got != power {
			t.Errorf("IsWhole(%d, Rising, 1) = %v", size, got)
		}
	}
}

func TestWayExamples(t *testing.T) {
	for _, c := range []struct {
		size  int
		kind  impl.Kind
		step  int
		home  int
		way   []int
		reach int
	}{
		{7, impl.Square, 1, 0, []int{0, 1, 4, 2, 2, 4, 1}, 4},
		{8, impl.Rising, 1, 0, []int{0, 1, 3, 6, 2, 7, 5, 4}, 8},
		{6, impl.Even, 4, 1, []int{1, 5, 3, 1, 5, 3}, 3},
		{5, impl.Even, 2, 4, []int{4, 1, 3, 0, 2}, 5},
		{6, impl.Rising, 1, 5, []int{5, 0, 2, 5, 3, 2}, 4},
		{16, impl.Even, 15, 15, []int{15, 14, 13, 12, 11, 10, 9, 8, 7, 6, 5, 4, 3, 2, 1, 0}, 16},
		{16, impl.Rising, 15, 0, []int{0, 15, 13, 10, 6, 1, 11, 4, 12, 3, 9, 14, 2, 5, 7, 8}, 16},
		{16, impl.Square, 16, 3, []int{3, 3, 3, 3, 3, 3, 3, 3, 3, 3, 3, 3, 3, 3, 3, 3}, 1},
		// With two slots a square way is an even one.
		{2, impl.Square, 1, 1, []int{1, 0}, 2},
		// Rings of one slot.
		{1, impl.Even, 0, 0, []int{0}, 1},
		{1, impl.Even, 16, 0, []int{0}, 1},
		{1, impl.Rising, 0, 0, []int{0}, 1},
		{1, impl.Rising, 1, 0, []int{0}, 1},
		{1, impl.Square, 7, 0, []int{0}, 1},
		// Steps of 0, and as great as the ring or greater.
		{3, impl.Square, 0, 2, []int{2, 2, 2}, 1},
		{3, impl.Rising, 0, 1, []int{1, 1, 1}, 1},
		{3, impl.Even, 0, 0, []int{0, 0, 0}, 1},
		{4, impl.Even, 4, 3, []int{3, 3, 3, 3}, 1},
		{4, impl.Rising, 4, 3, []int{3, 3, 3, 3}, 1},
		{4, impl.Even, 5, 3, []int{3, 0, 1, 2}, 4},
		{5, impl.Even, 16, 0, []int{0, 1, 2, 3, 4}, 5},
		{5, impl.Square, 16, 2, []int{2, 3, 1, 1, 3}, 3},
	} {
		if got, ok := impl.WayOf(c.size, c.kind, c.step, c.home); !slices.Equal(got, c.way) || !ok {
			t.Errorf("WayOf(%d, %d, %d, %d) = %v, %v", c.size, c.kind, c.step, c.home, got, ok)
		}
		if got := impl.ReachOf(c.size, c.kind, c.step); got != c.reach {
			t.Errorf("ReachOf(%d, %d, %d) = %d", c.size, c.kind, c.step, got)
		}
		if got := impl.IsWhole(c.size, c.kind, c.step); got != (c.reach == c.size) {
			t.Errorf("IsWhole(%d, %d, %d) = %v", c.size, c.kind, c.step, got)
		}
	}
}

func TestWholeStepsExamples(t *testing.T) {
	for size, want := range map[int][]int{
		// One slot is all of them, and the step 0 goes to it.
		1: {0}, 2: {1}, 3: {1, 2}, 6: {1, 5}, 7: {1, 2, 3, 4, 5, 6}, 8: {1, 3, 5, 7}, 12: {1, 5, 7, 11}, 15: {1, 2, 4, 7, 8, 11, 13, 14}, 16: {1, 3, 5, 7, 9, 11, 13, 15},
	} {
		if got, ok := impl.WholeSteps(size); !slices.Equal(got, want) || !ok {
			t.Errorf("WholeSteps(%d) = %v, %v", size, got, ok)
		}
	}
	for _, size := range noSizes {
		if got, ok := impl.WholeSteps(size); len(got) != 0 || ok {
			t.Errorf("WholeSteps(%d) = %v, %v", size, got, ok)
		}
	}
}

func TestAllShares(t *testing.T) {
	for a := range 130 {
		for b := range 130 {
			if got, want := impl.ShareOf(a, b), shareOf(a, b); got != want {
				t.Fatalf("ShareOf(%d, %d) = %d, not %d", a, b, got, want)
			}
		}
	}
}

func TestShareExamples(t *testing.T) {
	for _, c := range [][3]int{
		{12, 18, 6}, {18, 12, 6}, {7, 7, 7}, {16, 9, 1}, {1, 1, 1}, {1000000, 16, 16},
		// Numbers of which one is 0, or both are.
		{7, 0, 7}, {0, 5, 5}, {0, 1, 1}, {0, 0, 0}, {math.MaxInt, 0, math.MaxInt}, {0, math.MaxInt, math.MaxInt},
		{math.MaxInt, math.MaxInt, math.MaxInt}, {math.MaxInt, math.MaxInt - 1, 1}, {math.MaxInt, 1, 1}, {1 << 62, 1 << 40, 1 << 40}, {7, math.MaxInt, 7}, {math.MaxInt, 49, 49},
		// 7540113804746346429 and 4660046610375530309 stand one behind the other in a row where each number is the sum of two: no numbers of their size take more steps.
		{7540113804746346429, 4660046610375530309, 1},
		{-1, 5, -1}, {5, -1, -1}, {-1, 0, -1}, {0, -1, -1}, {-1, -1, -1}, {-6, -4, -1}, {12, -18, -1}, {-12, 18, -1},
		{math.MinInt, 0, -1}, {0, math.MinInt, -1}, {math.MinInt, math.MinInt, -1}, {math.MaxInt, math.MinInt, -1}, {math.MinInt, math.MaxInt, -1}, {math.MinInt, -1, -1},
	} {
		if got := impl.ShareOf(c[0], c[1]); got != c[2] {
			t.Errorf("ShareOf(%d, %d) = %d", c[0], c[1], got)
		}
	}
}

// meetOf holds two ways against each other, place by place.
func meetOf(one []int, two []int) int {
	for i := range one {
		if one[i] == two[i] {
			return i
		}
	}
	return -1
}

func TestAllMeetings(t *testing.T) {
	for size := 1; size <= 16; size++ {
		var trails [16][17][]int
		for home := range size {
			for step := range 17 {
				trails[home][step] = trailOf(size, impl.Even, step, home)
			}
		}
		for number := range size * 17 * size * 17 {
			first, one, second, two := number/(17*size*17), number/(size*17)%17, number/17%size, number%17
			want := meetOf(trails[first][one], trails[second][two])
			if got := impl.MeetAt(size, first, one, second, two); got != want {
				t.Fatalf("MeetAt(%d, %d, %d, %d, %d) = %d, not %d", size, first, one, second, two, got, want)
			}
		}
	}
}

func TestMeetExamples(t *testing.T) {
	for _, c := range [][6]int{
		{7, 0, 1, 3, 2, 4}, {7, 3, 2, 0, 1, 4}, {8, 0, 1, 4, 3, 2}, {16, 0, 1, 1, 0, 1}, {16, 1, 1, 0, 2, 1},
		// The last place at which ways may meet.
		{7, 0, 2, 1, 1, 1}, {7, 0, 1, 1, 2, 6}, {16, 0, 0, 1, 1, 15}, {16, 0, 15, 15, 0, 1},
		// One home for both.
		{8, 2, 3, 2, 5, 0}, {8, 2, 3, 2, 3, 0}, {16, 15, 0, 15, 16, 0},
		// One step for both, or steps that are as one in the ring.
		{7, 0, 1, 3, 1, -1}, {8, 0, 1, 3, 3, -1}, {4, 0, 0, 1, 4, -1}, {4, 0, 5, 1, 1, -1}, {3, 0, 16, 2, 1, -1},
		{4, 0, 4, 1, 1, 3}, {4, 3, 8, 0, 5, 3},
		// Rings of one slot.
		{1, 0, 0, 0, 0, 0}, {1, 0, 16, 0, 7, 0},
	} {
		if got := impl.MeetAt(c[0], c[1], c[2], c[3], c[4]); got != c[5] {
			t.Errorf("MeetAt(%v) = %d", c, got)
		}
	}
}

func TestMeetOfNoWays(t *testing.T) {
	check := func(size int, first int, one int, second int, two int) {
		t.Helper()
		if got := impl.MeetAt(size, first, one, second, two); got != -1 {
			t.Errorf("MeetAt(%d, %d, %d, %d, %d) = %d", size, first, one, second, two, got)
		}
	}
	for _, size := range noSizes {
		check(size, 0, 1, 0, 1)
		check(size, size, 1, size, 1)
	}
	for size := 1; size <= 16; size++ {
		for _, home := range noHomes(size) {
			check(size, home, 1, 0, 1)
			check(size, 0, 1, home, 1)
			check(size, home, 0, home, 0)
		}
		for _, step := range noSteps {
			check(size, 0, step, 0, 1)
			check(size, 0, 1, 0, step)
			check(size, 0, step, 0, step)
		}
	}
}

// checkNoWay holds for numbers that are not so.
func checkNoWay(t *testing.T, size int, kind impl.Kind, step int) {
	t.Helper()
	if got, ok := impl.WayOf(size, kind, step, 0); len(got) != 0 || ok {
		t.Errorf("WayOf(%d, %d, %d, 0) = %v, %v", size, kind, step, got, ok)
	}
	if got := impl.ReachOf(size, kind, step); got != -1 {
		t.Errorf("ReachOf(%d, %d, %d) = %d", size, kind, step, got)
	}
	if impl.IsWhole(size, kind, step) {
		t.Errorf("IsWhole(%d, %d, %d) = true", size, kind, step)
	}
}

func TestNoWays(t *testing.T) {
	for _, size := range noSizes {
		for _, kind := range allKinds {
			for _, step := range []int{0, 1, 16, 17, -1} {
				checkNoWay(t, size, kind, step)
			}
		}
	}
	for size := 1; size <= 16; size++ {
		for _, kind := range noKinds {
			for _, step := range []int{0, 1, 16, 17, -1} {
				checkNoWay(t, size, kind, step)
			}
		}
		for _, kind := range allKinds {
			for _, step := range noSteps {
				checkNoWay(t, size, kind, step)
			}
		}
	}
}

func TestWaysFromNoHomes(t *testing.T) {
	eachRing(func(size int, kind impl.Kind, step int) {
		for _, home := range noHomes(size) {
			if got, ok := impl.WayOf(size, kind, step, home); len(got) != 0 || ok {
				t.Errorf("WayOf(%d, %d, %d, %d) = %v, %v", size, kind, step, home, got, ok)
			}
		}
	})
}

func TestWaysShareNothing(t *testing.T) {
	one, _ := impl.WayOf(5, impl.Even, 2, 4)
	two, _ := impl.WayOf(5, impl.Even, 2, 4)
	steps, _ := impl.WholeSteps(8)
	again, _ := impl.WholeSteps(8)
	spoil(one)
	spoil(steps)
	if !slices.Equal(two, []int{4, 1, 3, 0, 2}) || !slices.Equal(again, []int{1, 3, 5, 7}) {
		t.Errorf("they became %v and %v", two, again)
	}
	if got, _ := impl.WayOf(5, impl.Even, 2, 4); !slices.Equal(got, two) {
		t.Errorf("WayOf = %v", got)
	}
	if got, _ := impl.WholeSteps(8); !slices.Equal(got, again) {
		t.Errorf("WholeSteps = %v", got)
	}
}
