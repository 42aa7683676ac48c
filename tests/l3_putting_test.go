package tests

import (
	"slices"
	"testing"

	"loop.example/opentables/impl"
)

func TestMaxMany(t *testing.T) {
	if got := impl.MaxMany; got != 100 {
		t.Errorf("MaxMany = %d", got)
	}
}

// sound reads off the rows of slots whether all keys are found.
func sound(x impl.Table) bool {
	return !slices.ContainsFunc(x.Slots, func(holds int) bool {
		return holds >= 0 && !slices.Contains(visited(x, holds), holds)
	})
}

// notSound are valid tables in which a key is lost.
func notSound() map[string]impl.Table {
	return map[string]impl.Table{
		"right behind a free slot": tableOf(1, 0, free, 0, free, 7),
		"far behind a free slot":   tableOf(1, 0, tomb, free, tomb, 0, tomb),
		"around the end":           tableOf(1, 0, 5, tomb, tomb, free, 6),
		"the last of many":         tableOf(1, 0, 0, 8, free, 3, 11, 5, 21, 2),
		"one slot of sixteen free": tableOf(1, 0, 16, free, 2, 3, 4, 5, 6, 7, 8, 9, 10, 11, 12, 13, 14, 32),
	}
}

func TestNotSound(t *testing.T) {
	for why, x := range notSound() {
		if !impl.TableValid(x) || impl.IsSound(x) || sound(x) {
			t.Errorf("%s: %v is not valid, or it is sound", why, x)
		}
	}
}

// holding returns a table of which one slot holds something else.
func holding(x impl.Table, slot int, key int) impl.Table {
	slots := slices.Clone(x.Slots)
	slots[slot] = key
	return tableOf(x.Times, x.Plus, slots...)
}

// placeOf reads off the row of a key where it would be put into a sound table, or -1.
func placeOf(x impl.Table, key int) int {
	line := visited(x, key)
	if slices.Contains(line, key) {
		return -1
	}
	return lineSlot(x, key, slices.IndexFunc(line, func(holds int) bool { return holds < 0 }))
}

func TestPutKeyInManyTables(t *testing.T) {
	for _, x := range manyTables() {
		whole := sound(x)
		for _, key := range lookedFor {
			want, visits := impl.Table{}, -1
			place := placeOf(x, key)
			if whole && place >= 0 {
				want, visits = holding(x, place, key), len(visited(x, key))
			}
			if got, ok := impl.PutKey(x, key); !sameFields(got, want) || ok != (visits >= 0) {
				t.Fatalf("PutKey(%v, %d) = %v, %v, not %v", x, key, got, ok, want)
			}
			if got := impl.PutVisits(x, key); got != visits {
				t.Fatalf("PutVisits(%v, %d) = %d, not %d", x, key, got, visits)
			}
		}
	}
}

// TestPutKeyIsFound holds the promise itself: the key is found then, and so are all that were there.
func TestPutKeyIsFound(t *testing.T) {
	for _, x := range manyTables() {
		before, _ := impl.KeysIn(x)
		for _, key := range lookedFor {
			y, ok := impl.PutKey(x, key)
			if !ok {
				continue
			}
			place, _ := impl.PlaceFor(x, key)
			if slot, found := impl.FindKey(y, key); slot != place || !found {
				t.Fatalf("%d put into %v is found in %d, %v, not in %d", key, x, slot, found, place)
			}
			for _, old := range before {
				one, _ := impl.FindKey(x, old)
				if two, found := impl.FindKey(y, old); two != one || !found {
					t.Fatalf("with %d put into %v, %d is found in %d, %v, not in %d", key, x, old, two, found, one)
				}
			}
			if after, _ := impl.KeysIn(y); len(after) != len(before)+1 || !impl.IsSound(y) {
				t.Fatalf("%d put into %v makes %v", key, x, y)
			}
		}
	}
}

// A way is what putting a list of keys makes. Its tables are those behind each key.
type way struct {
	tables []impl.Table
	visits int
}

// wayOf puts keys by the rows of slots alone, and reports whether each is found or has a place.
func wayOf(x impl.Table, keys []int) (way, bool) {
	var made way
	for _, key := range keys {
		line := visited(x, key)
		made.visits += len(line)
		if !slices.Contains(line, key) {
			place := placeOf(x, key)
			if place < 0 {
				return way{}, false
			}
			x = holding(x, place, key)
		}
		made.tables = append(made.tables, x)
	}
	return made, true
}

// checkWay compares what the functions make of a list of keys with a way, if there is one.
func checkWay(t *testing.T, x impl.Table, keys []int, made way, whole bool) {
	t.Helper()
	var want impl.Table
	var texts []string
	visits := -1
	if whole {
		want, visits = x, made.visits
	}
	for _, table := range made.tables {
		want = table
		texts = append(texts, impl.FormatTable(table))
	}
	if got, ok := impl.PutAll(x, keys); !sameFields(got, want) || ok != whole {
		t.Fatalf("PutAll(%v, %v) = %v, %v, not %v", x, keys, got, ok, want)
	}
	if got := impl.PutsVisits(x, keys); got != visits {
		t.Fatalf("PutsVisits(%v, %v) = %d, not %d", x, keys, got, visits)
	}
	if got, ok := impl.StepsFor(x, keys); !slices.Equal(got, texts) || ok != whole {
		t.Fatalf("StepsFor(%v, %v) = %q, %v, not %q", x, keys, got, ok, texts)
	}
}

// putLists are lists with keys that the small tables hold, keys that they do not, and keys that stand twice.
var putLists = [][]int{nil, {4}, {4, 4}, {0, 5, 7}, {7, 5, 0}, {1, 2, 3}, {3, 2, 1, 2, 3}, {99, 8, 11, 8, 99}, {5, 6, 4, 11, 0, 98, 7}}

func TestPutListsInManyTables(t *testing.T) {
	for _, x := range manyTables() {
		for _, keys := range putLists {
			made, whole := wayOf(x, keys)
			if !sound(x) {
				made, whole = way{}, false
			}
			checkWay(t, x, keys, made, whole)
		}
	}
}

// TestPutListsInLargeTables fills tables of all sizes with keys that have many homes or few.
func TestPutListsInLargeTables(t *testing.T) {
	for size := 1; size <= 16; size++ {
		for times := range 16 {
			x := tableOf(times, 5, slotsWith(size, tomb)...)
			var keys []int
			for i := range size + 1 {
				made, whole := wayOf(x, keys)
				if !whole {
					t.Fatalf("%v has no place for %v", x, keys)
				}
				checkWay(t, x, keys, made, true)
				keys = append(keys, (i*37+times)%100)
			}
			checkWay(t, x, keys, way{}, false)
		}
	}
}

func TestPutKeyExamples(t *testing.T) {
	document := tableOf(1, 0, 7, tomb, free, 3, tomb, free, free)
	tombs := tableOf(1, 0, tomb, 4, tomb)
	for _, c := range []struct {
		x      impl.Table
		key    int
		want   []int
		visits int
	}{
		// The first tomb visited is used again, though a free slot is visited too.
		{document, 14, []int{7, 14, free, 3, tomb, free, free}, 3},
		{document, 10, []int{7, tomb, free, 3, 10, free, free}, 3},
		{document, 8, []int{7, 8, free, 3, tomb, free, free}, 2},
		{document, 2, []int{7, tomb, 2, 3, tomb, free, free}, 1},
		{document, 6, []int{7, tomb, free, 3, tomb, free, 6}, 1},
		{document, 7, nil, -1}, {document, 3, nil, -1},
		// Without a free slot all are visited, and a tomb is used.
		{tombs, 2, []int{tomb, 4, 2}, 3}, {tombs, 1, []int{tomb, 4, 1}, 3}, {tombs, 3, []int{3, 4, tomb}, 3}, {tombs, 4, nil, -1},
		// Behind the last slot the first one follows.
		{tableOf(1, 0, 4, free, free, free, 9), 14, []int{4, 14, free, free, 9}, 3},
		{tableOf(1, 0, tomb, 4, free, free, 9), 14, []int{14, 4, free, free, 9}, 4},
		// A table gets full, and is.
		{tableOf(1, 0, 0, free, 2), 5, []int{0, 5, 2}, 3}, {tableOf(1, 0, 1, 2, 0), 5, nil, -1}, {tableOf(1, 0, 1, 2, 0), 0, nil, -1},
		{tableOf(0, 0, free), 99, []int{99}, 1}, {tableOf(0, 0, tomb), 0, []int{0}, 1}, {tableOf(0, 0, 0), 1, nil, -1}, {tableOf(0, 0, 0), 0, nil, -1},
	} {
		var want impl.Table
		if c.want != nil {
			want = tableOf(c.x.Times, c.x.Plus, c.want...)
		}
		got, ok := impl.PutKey(c.x, c.key)
		if visits := impl.PutVisits(c.x, c.key); !sameFields(got, want) || ok != (c.want != nil) || visits != c.visits {
			t.Errorf("PutKey(%v, %d) = %v, %v; PutVisits = %d", c.x, c.key, got, ok, visits)
		}
	}
}

func TestPutListExamples(t *testing.T) {
	seven := tableOf(1, 0, slotsWith(7)...)
	document := tableOf(1, 0, 7, tomb, free, 3, tomb, free, free)
	full := tableOf(1, 0, 1, 2, 0)
	for _, c := range []struct {
		x      impl.Table
		keys   []int
		steps  []string
		visits int
	}{
		{seven, []int{7, 14, 8, 3}, []string{"1+0:7 . . . . . .", "1+0:7 14 . . . . .", "1+0:7 14 8 . . . .", "1+0:7 14 8 3 . . ."}, 6},
		{seven, []int{6, 13, 20}, []string{"1+0:. . . . . . 6", "1+0:13 . . . . . 6", "1+0:13 20 . . . . 6"}, 6},
		// Keys that are found are passed over, but visited.
		{seven, []int{5, 5, 12, 5, 12}, []string{"1+0:. . . . . 5 .", "1+0:. . . . . 5 .", "1+0:. . . . . 5 12", "1+0:. . . . . 5 12", "1+0:. . . . . 5 12"}, 7},
		{full, []int{0, 1, 2}, []string{"1+0:1 2 0", "1+0:1 2 0", "1+0:1 2 0"}, 9},
		// Tombs are used again, each one once.
		{document, []int{14, 21, 10}, []string{"1+0:7 14 . 3 x . .", "1+0:7 14 21 3 x . .", "1+0:7 14 21 3 10 . ."}, 9},
		{tableOf(0, 1, tomb, tomb), []int{8, 9, 8}, []string{"0+1:x 8", "0+1:9 8", "0+1:9 8"}, 5},
		{tableOf(0, 0, free), []int{0}, []string{"0+0:0"}, 1},
	} {
		steps, two := impl.StepsFor(c.x, c.keys)
		last, one := impl.PutAll(c.x, c.keys)
		text := impl.FormatTable(last)
		if visits := impl.PutsVisits(c.x, c.keys); !one || !two || !slices.Equal(steps, c.steps) || text != c.steps[len(c.steps)-1] || visits != c.visits {
			t.Errorf("%v, %v: StepsFor = %q, %v; PutAll = %q, %v; PutsVisits = %d", c.x, c.keys, steps, two, text, one, visits)
		}
	}
}

func TestPutListsWithoutAPlace(t *testing.T) {
	full := tableOf(1, 0, 1, 2, 0)
	nearly := tableOf(1, 0, 0, tomb, 2)
	for _, c := range []struct {
		x    impl.Table
		keys []int
	}{
		{full, []int{3}}, {full, []int{0, 1, 2, 3}}, {full, []int{3, 0}}, {nearly, []int{1, 5}}, {nearly, []int{5, 1}}, {nearly, []int{1, 0, 2, 1, 99}},
		{tableOf(0, 0, free), []int{0, 1}}, {tableOf(0, 0, 50), []int{50, 51, 50}},
	} {
		checkWay(t, c.x, c.keys, way{}, false)
	}
}

func TestPutNoKeys(t *testing.T) {
	tables := texted()
	tables["free"] = tableOf(1, 0, slotsWith(16)...)
	for text, x := range tables {
		for _, number := range noKeys {
			if got, ok := impl.PutKey(x, number); !isZero(got) || ok {
				t.Errorf("%s: PutKey(%d) = %v, %v", text, number, got, ok)
			}
			if got := impl.PutVisits(x, number); got != -1 {
				t.Errorf("%s: PutVisits(%d) = %d", text, number, got)
			}
			for _, keys := range [][]int{{number}, {7, number}, {number, 7}, {7, number, 14}, {number, number}} {
				checkWay(t, x, keys, way{}, false)
			}
		}
	}
}

func TestPutListsOfAllLengths(t *testing.T) {
	x := tableOf(1, 0, 7, 14, free, 3, tomb, free, free)
	for length := range 130 {
		// Keys that are found, so that only the length of the list can matter.
		keys := slices.Repeat([]int{14}, length)
		made, whole := wayOf(x, keys)
		if length > 100 {
			made, whole = way{}, false
		}
		checkWay(t, x, keys, made, whole)
	}
	checkWay(t, x, make([]int, 1<<20), way{}, false)
	checkWay(t, tableOf(0, 0, free), slices.Repeat([]int{5}, 101), way{}, false)
}

func TestPutIntoNoTables(t *testing.T) {
	tables := notValid()
	for why, x := range notSound() {
		tables[why] = x
	}
	for why, x := range tables {
		for _, key := range append([]int{0, 1, 5, 16, 50, 99}, noKeys...) {
			if got, ok := impl.PutKey(x, key); !isZero(got) || ok {
				t.Errorf("%s: PutKey(%d) = %v, %v", why, key, got, ok)
			}
			if got := impl.PutVisits(x, key); got != -1 {
				t.Errorf("%s: PutVisits(%d) = %d", why, key, got)
			}
			checkWay(t, x, []int{key}, way{}, false)
		}
		checkWay(t, x, nil, way{}, false)
	}
}

func TestLoadOf(t *testing.T) {
	for size := 1; size <= 16; size++ {
		for taken := range size + 1 {
			slots := slotsWith(size)
			for i := range taken {
				// Tombs count as keys do.
				slots[size-1-i] = []int{tomb, 90 + i/2}[i%2]
			}
			want := 0
			for (want+1)*size <= 100*taken {
				want++
			}
			if got := impl.LoadOf(tableOf(3, 1, slots...)); got != want {
				t.Errorf("LoadOf(%v) = %d, not %d", slots, got, want)
			}
		}
	}
	for why, x := range notValid() {
		if got := impl.LoadOf(x); got != -1 {
			t.Errorf("%s: LoadOf = %d", why, got)
		}
	}
	// A table need not be sound for that.
	if got := impl.LoadOf(tableOf(1, 0, free, 0, free, 7)); got != 50 {
		t.Errorf("LoadOf of a table with lost keys = %d", got)
	}
}

// callPutting calls every function of the chapter.
func callPutting(x impl.Table) {
	impl.LoadOf(x)
	for n := -3; n <= 101; n++ {
		impl.PutKey(x, n)
		impl.PutVisits(x, n)
	}
	for _, keys := range putLists {
		impl.PutAll(x, keys)
		impl.PutsVisits(x, keys)
		impl.StepsFor(x, keys)
	}
}

func TestTablesStayInPutting(t *testing.T) {
	checkStay(t, callPutting)
}

func TestListsStayInPutting(t *testing.T) {
	memory := []int{7, 14, 7, 3, 98, 99}
	before := slices.Clone(memory)
	x := tableOf(1, 0, slotsWith(7)...)
	impl.PutAll(x, memory[:4])
	impl.PutsVisits(x, memory[:4])
	impl.StepsFor(x, memory[:4])
	if !slices.Equal(memory, before) {
		t.Errorf("the keys became %v", memory)
	}
}

// checkApart spoils each of some tables in turn, which must leave the others as they are.
func checkApart(t *testing.T, results ...impl.Table) {
	t.Helper()
	for i, result := range results {
		others := slices.Delete(slices.Clone(results), i, i+1)
		var kept []string
		for _, other := range others {
			kept = append(kept, impl.FormatTable(other))
		}
		slots := slices.Clone(result.Slots)
		spoil(result.Slots)
		for n, other := range others {
			if impl.FormatTable(other) != kept[n] {
				t.Errorf("a result became %v", other)
			}
		}
		copy(result.Slots, slots)
	}
}

func TestPuttingResultsShareNothing(t *testing.T) {
	memory := append(slotsWith(7, 7, 14), 97, 98, 99)
	before := slices.Clone(memory)
	x := tableOf(1, 0, memory[:7]...)
	one, _ := impl.PutKey(x, 21)
	two, _ := impl.PutAll(x, []int{21, 28})
	// Nothing is put here, but the table is one of its own all the same.
	three, _ := impl.PutAll(x, []int{7})
	four, _ := impl.PutAll(x, nil)
	checkApart(t, one, two, three, four)
	if !slices.Equal(memory, before) {
		t.Errorf("the slots became %v", memory)
	}
}
