package tests

import (
	"math"
	"slices"
	"testing"

	"loop.example/opentables/impl"
)

const (
	free = impl.Free
	tomb = impl.Tomb
)

// noKeys are numbers that are no keys. Two of them are what slots hold that hold none.
var noKeys = []int{math.MinInt, -100, -3, tomb, free, 100, 101, 1 << 32, math.MaxInt}

// smallTables returns all tables of so few slots that are free, tombs or hold one of the keys given.
func smallTables(size int, times int, plus int, keys ...int) []impl.Table {
	tables := []impl.Table{tableOf(times, plus)}
	for range size {
		var longer []impl.Table
		for _, x := range tables {
			for _, holds := range append([]int{free, tomb}, keys...) {
				if holds < 0 || !slices.Contains(x.Slots, holds) {
					longer = append(longer, tableOf(times, plus, append(slices.Clone(x.Slots), holds)...))
				}
			}
		}
		tables = longer
	}
	return tables
}

// manyTables are all small tables under rules that bring keys home together, apart, and around the end of the ring.
func manyTables() []impl.Table {
	var tables []impl.Table
	for size := 1; size <= 4; size++ {
		for _, rule := range [][2]int{{0, 0}, {0, 3}, {1, 0}, {1, 1}, {3, 2}, {15, 15}} {
			tables = append(tables, smallTables(size, rule[0], rule[1], 0, 4, 5, 7, 99)...)
		}
	}
	return append(tables, smallTables(6, 1, 0, 6, 11)...)
}

// row returns the slots from the home of a key on, laid in a line.
func row(x impl.Table, key int) []int {
	home := slotAfter(len(x.Slots), x.Times*key+x.Plus)
	return append(slices.Clone(x.Slots[home:]), x.Slots[:home]...)
}

// lineSlot turns a place in the row of a key into the number of its slot, and leaves -1 alone.
func lineSlot(x impl.Table, key int, place int) int {
	if place < 0 {
		return -1
	}
	return slotAfter(len(x.Slots), x.Times*key+x.Plus+place)
}

// visited cuts the row of a key behind the last slot visited: the first one that holds the key or is free.
func visited(x impl.Table, key int) []int {
	line := row(x, key)
	last := slices.IndexFunc(line, func(holds int) bool { return holds == key || holds == free })
	if last < 0 {
		return line
	}
	return line[:last+1]
}

// lookedFor are keys that are in the small tables and keys that are in none.
var lookedFor = []int{0, 1, 2, 3, 4, 5, 6, 7, 8, 11, 98, 99}

func TestFindingInManyTables(t *testing.T) {
	for _, x := range manyTables() {
		for _, key := range lookedFor {
			line := visited(x, key)
			want := lineSlot(x, key, slices.Index(line, key))
			if got, ok := impl.FindKey(x, key); got != want || ok != (want >= 0) {
				t.Fatalf("FindKey(%v, %d) = %d, %v, not %d", x, key, got, ok, want)
			}
			if got := impl.VisitsFor(x, key); got != len(line) {
				t.Fatalf("VisitsFor(%v, %d) = %d, not %d", x, key, got, len(line))
			}
		}
	}
}

func TestPlacesInManyTables(t *testing.T) {
	for _, x := range manyTables() {
		for _, key := range lookedFor {
			line := visited(x, key)
			want := -1
			if !slices.Contains(line, key) {
				want = lineSlot(x, key, slices.IndexFunc(line, func(holds int) bool { return holds < 0 }))
			}
			if got, ok := impl.PlaceFor(x, key); got != want || ok != (want >= 0) {
				t.Fatalf("PlaceFor(%v, %d) = %d, %v, not %d", x, key, got, ok, want)
			}
		}
	}
}

func TestLostKeysInManyTables(t *testing.T) {
	for _, x := range manyTables() {
		var want []int
		for key := range 100 {
			if slices.Contains(x.Slots, key) && !slices.Contains(visited(x, key), key) {
				want = append(want, key)
			}
		}
		if got, ok := impl.LostKeys(x); !slices.Equal(got, want) || !ok {
			t.Fatalf("LostKeys(%v) = %v, %v, not %v", x, got, ok, want)
		}
		if got := impl.IsSound(x); got != (len(want) == 0) {
			t.Fatalf("IsSound(%v) = %v", x, got)
		}
	}
}

func TestFindingExamples(t *testing.T) {
	document := tableOf(1, 0, 7, 14, free, 3, tomb, free, free)
	around := tableOf(1, 0, 13, tomb, 27, free, free, tomb, 6)
	full := tableOf(1, 0, 4, 1, tomb, 3)
	crowd := tableOf(15, 15, 15, 14, 13, 12, 11, 10, 9, 8, 7, 6, 5, 4, 3, 2, 1, 0)
	for _, c := range []struct {
		x                        impl.Table
		key, slot, visits, place int
	}{
		{document, 7, 0, 1, -1}, {document, 14, 1, 2, -1}, {document, 3, 3, 1, -1},
		{document, 10, -1, 3, 4}, {document, 21, -1, 3, 2}, {document, 99, -1, 2, 2}, {document, 0, -1, 3, 2}, {document, 4, -1, 2, 4}, {document, 5, -1, 1, 5},
		// Around the end of the ring, over a tomb.
		{around, 6, 6, 1, -1}, {around, 13, 0, 2, -1}, {around, 27, 2, 4, -1}, {around, 20, -1, 5, 1}, {around, 5, -1, 6, 5}, {around, 3, -1, 1, 3},
		// No slot is free: all are visited, and only a tomb is a place.
		{full, 4, 0, 1, -1}, {full, 3, 3, 1, -1}, {full, 5, -1, 4, 2}, {full, 7, -1, 4, 2}, {full, 2, -1, 4, 2},
		{crowd, 0, 15, 1, -1}, {crowd, 15, 0, 1, -1}, {crowd, 16, -1, 16, -1}, {crowd, 99, -1, 16, -1},
		{tableOf(1, 0, 1, 2, 0), 0, 2, 3, -1}, {tableOf(1, 0, 1, 2, 0), 5, -1, 3, -1},
		{tableOf(0, 0, free), 0, -1, 1, 0}, {tableOf(0, 0, tomb), 99, -1, 1, 0}, {tableOf(15, 15, 50), 50, 0, 1, -1}, {tableOf(15, 15, 50), 51, -1, 1, -1},
		{tableOf(3, 1, tomb, tomb, tomb), 2, -1, 3, 1}, {tableOf(3, 1, tomb, 2, tomb), 3, -1, 3, 2},
		// A lost key is not found, so there is a place for it.
		{tableOf(1, 0, free, 0, free, 7), 0, -1, 1, 0}, {tableOf(1, 0, tomb, free, 0), 0, -1, 2, 0},
	} {
		slot, found := impl.FindKey(c.x, c.key)
		place, room := impl.PlaceFor(c.x, c.key)
		visits := impl.VisitsFor(c.x, c.key)
		if slot != c.slot || found != (c.slot >= 0) || visits != c.visits || place != c.place || room != (c.place >= 0) {
			t.Errorf("%v, %d: FindKey = %d, %v; VisitsFor = %d; PlaceFor = %d, %v", c.x, c.key, slot, found, visits, place, room)
		}
	}
}

func TestLostKeysExamples(t *testing.T) {
	for _, c := range []struct {
		x    impl.Table
		want []int
	}{
		{tableOf(1, 0, 7, 14, free, 3, tomb, free, free), nil},
		{tableOf(1, 0, free, 0, free, 7), []int{0}},
		{tableOf(1, 0, 5, free, free, 9, 1), []int{1, 9}},
		{tableOf(1, 0, 5, tomb, tomb, 9, 1), nil},
		{tableOf(0, 2, 99, 50, free, 8, 0), []int{0, 8, 50, 99}},
		{tableOf(0, 0, free), nil},
		{tableOf(0, 0, 0), nil},
		{tableOf(1, 0, slotsWith(16, 99, 98, 97, 96, 95, 94, 93, 92, 91, 90, 89, 88, 87, 86, 85)...), []int{90, 91, 92, 93, 94, 95, 98, 99}},
	} {
		if got, ok := impl.LostKeys(c.x); !slices.Equal(got, c.want) || !ok {
			t.Errorf("LostKeys(%v) = %v, %v", c.x, got, ok)
		}
		if got := impl.IsSound(c.x); got != (c.want == nil) {
			t.Errorf("IsSound(%v) = %v", c.x, got)
		}
	}
}

// runOwners writes beside each slot how many of the runs it lies in.
func runOwners(size int, runs []impl.Run) []int {
	owners := make([]int, size)
	for _, run := range runs {
		for steps := range run.Size {
			owners[slotAfter(size, run.From+steps)]++
		}
	}
	return owners
}

// TestRunsInManyTables holds for all runs: each slot that is not free lies in one of them, no other does, and free slots end them.
func TestRunsInManyTables(t *testing.T) {
	for _, x := range manyTables() {
		size := len(x.Slots)
		runs, ok := impl.RunsOf(x)
		good := ok && slices.IsSortedFunc(runs, func(a, b impl.Run) int { return a.From - b.From })
		for slot, owners := range runOwners(size, runs) {
			good = good && (owners == 0) == (x.Slots[slot] == free) && owners <= 1
		}
		for _, run := range runs {
			if !slices.Contains(x.Slots, free) {
				good = good && run == impl.Run{From: 0, Size: size}
				continue
			}
			good = good && x.Slots[slotAfter(size, run.From+size-1)] == free && x.Slots[slotAfter(size, run.From+run.Size)] == free
		}
		if !good {
			t.Fatalf("RunsOf(%v) = %v, %v", x, runs, ok)
		}
	}
}

func TestRunAtInManyTables(t *testing.T) {
	for _, x := range manyTables() {
		size := len(x.Slots)
		want := make([]impl.Run, size)
		runs, _ := impl.RunsOf(x)
		for _, run := range runs {
			for steps := range run.Size {
				want[slotAfter(size, run.From+steps)] = run
			}
		}
		for slot := range size {
			if got, ok := impl.RunAt(x, slot); got != want[slot] || ok != (x.Slots[slot] != free) {
				t.Fatalf("RunAt(%v, %d) = %v, %v", x, slot, got, ok)
			}
		}
	}
}

func TestRunsExamples(t *testing.T) {
	for _, c := range []struct {
		x    impl.Table
		want []impl.Run
	}{
		{tableOf(1, 0, 7, 14, free, 3, tomb, free, free), []impl.Run{{From: 0, Size: 2}, {From: 3, Size: 2}}},
		{tableOf(1, 0, 4, free, free, 3, 8), []impl.Run{{From: 3, Size: 3}}},
		{tableOf(1, 0, 4, tomb, free, 2, free, tomb), []impl.Run{{From: 3, Size: 1}, {From: 5, Size: 3}}},
		{tableOf(1, 0, free, 1, free, 2), []impl.Run{{From: 1, Size: 1}, {From: 3, Size: 1}}},
		{tableOf(1, 0, 1, 2, 0), []impl.Run{{From: 0, Size: 3}}},
		{tableOf(1, 0, tomb, tomb), []impl.Run{{From: 0, Size: 2}}},
		{tableOf(1, 0, free, free, free), nil},
		{tableOf(0, 0, free), nil},
		{tableOf(0, 0, tomb), []impl.Run{{From: 0, Size: 1}}},
		{tableOf(0, 0, 5), []impl.Run{{From: 0, Size: 1}}},
		{tableOf(0, 0, free, 5), []impl.Run{{From: 1, Size: 1}}},
		{tableOf(0, 0, 5, free), []impl.Run{{From: 0, Size: 1}}},
		{tableOf(1, 0, slices.Repeat([]int{tomb}, 16)...), []impl.Run{{From: 0, Size: 16}}},
		{tableOf(1, 0, append(slices.Repeat([]int{tomb}, 15), free)...), []impl.Run{{From: 0, Size: 15}}},
		{tableOf(1, 0, append([]int{9, free}, slices.Repeat([]int{tomb}, 14)...)...), []impl.Run{{From: 2, Size: 15}}},
		{tableOf(1, 0, slices.Repeat([]int{free, tomb}, 8)...), []impl.Run{{From: 1, Size: 1}, {From: 3, Size: 1}, {From: 5, Size: 1}, {From: 7, Size: 1}, {From: 9, Size: 1}, {From: 11, Size: 1}, {From: 13, Size: 1}, {From: 15, Size: 1}}},
	} {
		if got, ok := impl.RunsOf(c.x); !slices.Equal(got, c.want) || !ok {
			t.Errorf("RunsOf(%v) = %v, %v", c.x, got, ok)
		}
	}
}

func TestRunAtExamples(t *testing.T) {
	document := tableOf(1, 0, 7, 14, free, 3, tomb, free, free)
	around := tableOf(1, 0, 4, free, free, 3, 8)
	full := tableOf(1, 0, 1, tomb, 0)
	for _, c := range []struct {
		x    impl.Table
		slot int
		want impl.Run
	}{
		{document, 0, impl.Run{From: 0, Size: 2}}, {document, 1, impl.Run{From: 0, Size: 2}}, {document, 2, impl.Run{}},
		{document, 3, impl.Run{From: 3, Size: 2}}, {document, 4, impl.Run{From: 3, Size: 2}}, {document, 5, impl.Run{}}, {document, 6, impl.Run{}},
		{around, 0, impl.Run{From: 3, Size: 3}}, {around, 1, impl.Run{}}, {around, 3, impl.Run{From: 3, Size: 3}}, {around, 4, impl.Run{From: 3, Size: 3}},
		{full, 0, impl.Run{From: 0, Size: 3}}, {full, 1, impl.Run{From: 0, Size: 3}}, {full, 2, impl.Run{From: 0, Size: 3}},
	} {
		if got, ok := impl.RunAt(c.x, c.slot); got != c.want || ok != (c.want.Size > 0) {
			t.Errorf("RunAt(%v, %d) = %v, %v", c.x, c.slot, got, ok)
		}
	}
}

func TestRunAtNoSlot(t *testing.T) {
	tables := texted()
	tables["full"] = tableOf(1, 0, 1, 2, 0)
	for text, x := range tables {
		size := len(x.Slots)
		for _, slot := range []int{math.MinInt, -size - 1, -size, -2, -1, size, size + 1, 2 * size, 99, math.MaxInt} {
			if got, ok := impl.RunAt(x, slot); got != (impl.Run{}) || ok {
				t.Errorf("RunAt(%s, %d) = %v, %v", text, slot, got, ok)
			}
		}
	}
}

// noneFound reports whether nothing is found for a number in a table, nor looked for.
func noneFound(x impl.Table, number int) bool {
	slot, found := impl.FindKey(x, number)
	place, room := impl.PlaceFor(x, number)
	return slot == -1 && !found && place == -1 && !room && impl.VisitsFor(x, number) == -1
}

func TestFindingNoKeys(t *testing.T) {
	for text, x := range texted() {
		for _, number := range noKeys {
			if !noneFound(x, number) {
				t.Errorf("%s: %d is looked for", text, number)
			}
		}
	}
}

func TestFindingInNotValidTables(t *testing.T) {
	for why, x := range notValid() {
		for _, number := range append([]int{0, 1, 5, 16, 99}, noKeys...) {
			if !noneFound(x, number) {
				t.Errorf("%s: %d is looked for", why, number)
			}
			if run, ok := impl.RunAt(x, number); run != (impl.Run{}) || ok {
				t.Errorf("%s: RunAt(%d) = %v, %v", why, number, run, ok)
			}
		}
		if lost, ok := impl.LostKeys(x); len(lost) != 0 || ok {
			t.Errorf("%s: LostKeys = %v, %v", why, lost, ok)
		}
		if runs, ok := impl.RunsOf(x); len(runs) != 0 || ok {
			t.Errorf("%s: RunsOf = %v, %v", why, runs, ok)
		}
		if impl.IsSound(x) {
			t.Errorf("%s: IsSound = true", why)
		}
	}
}

// callFinding calls every function of the chapter.
func callFinding(x impl.Table) {
	impl.LostKeys(x)
	impl.IsSound(x)
	impl.RunsOf(x)
	for n := -3; n <= 101; n++ {
		impl.FindKey(x, n)
		impl.VisitsFor(x, n)
		impl.RunAt(x, n)
		impl.PlaceFor(x, n)
	}
}

func TestTablesStayInFinding(t *testing.T) {
	checkStay(t, callFinding)
}

func TestFindingResultsShareNothing(t *testing.T) {
	x := tableOf(1, 0, 5, free, free, 9, 1)
	lost, _ := impl.LostKeys(x)
	spoil(lost)
	runs, _ := impl.RunsOf(x)
	runs = runs[:cap(runs)]
	for i := range runs {
		runs[i] = impl.Run{From: 55, Size: 55}
	}
	if !sameFields(x, tableOf(1, 0, 5, free, free, 9, 1)) {
		t.Errorf("the table became %v", x)
	}
	if got, _ := impl.LostKeys(x); !slices.Equal(got, []int{1, 9}) {
		t.Errorf("LostKeys = %v", got)
	}
	if got, _ := impl.RunsOf(x); !slices.Equal(got, []impl.Run{{From: 3, Size: 3}}) {
		t.Errorf("RunsOf = %v", got)
	}
}
