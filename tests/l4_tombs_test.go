package tests

import (
	"slices"
	"testing"

	"loop.example/opentables/impl"
)

// A tidied is what the functions make of a table that are handed no key. Without a sound table all of it is zero.
type tidied struct {
	trim, clean, fewest impl.Table
	needed              []int
}

// checkTidied compares what the functions return with what they should, if the table is sound.
func checkTidied(t *testing.T, x impl.Table, want tidied, whole bool) {
	t.Helper()
	if got, ok := impl.TrimTombs(x); !sameFields(got, want.trim) || ok != whole {
		t.Errorf("TrimTombs(%v) = %v, %v, not %v", x, got, ok, want.trim)
	}
	if got, ok := impl.CleanTable(x); !sameFields(got, want.clean) || ok != whole {
		t.Errorf("CleanTable(%v) = %v, %v, not %v", x, got, ok, want.clean)
	}
	if got, ok := impl.FewestTombs(x); !sameFields(got, want.fewest) || ok != whole {
		t.Errorf("FewestTombs(%v) = %v, %v, not %v", x, got, ok, want.fewest)
	}
	if got, ok := impl.NeededTombs(x); !slices.Equal(got, want.needed) || ok != whole {
		t.Errorf("NeededTombs(%v) = %v, %v, not %v", x, got, ok, want.needed)
	}
}

// tidiedOf follows the document word by word: one tomb at a time is free, and keys are looked for again.
func tidiedOf(x impl.Table) tidied {
	size := len(x.Slots)
	want := tidied{trim: x, fewest: x, clean: tableOf(x.Times, x.Plus, slotsWith(size)...)}
	for range size {
		for slot, holds := range want.trim.Slots {
			if holds == tomb && want.trim.Slots[slotAfter(size, slot+1)] == free {
				want.trim = holding(want.trim, slot, free)
			}
		}
	}
	for slot, holds := range x.Slots {
		switch {
		case holds >= 0:
			want.clean = holding(want.clean, placeOf(want.clean, holds), holds)
		case holds == tomb && sound(holding(x, slot, free)):
			want.fewest = holding(want.fewest, slot, free)
		case holds == tomb:
			want.needed = append(want.needed, slot)
		}
	}
	return want
}

// largeTables are tables of all sizes and rules from which each second or third key has been dropped.
func largeTables() []impl.Table {
	var tables []impl.Table
	for size := 1; size <= 16; size++ {
		for times := range 16 {
			for left := range 3 {
				x := tableOf(times, 15-times, slotsWith(size)...)
				for i := range size - left {
					key := (i*37 + times) % 100
					x = holding(x, placeOf(x, key), key)
				}
				for i := times % 2; i < size-left; i += 2 + times%3/2 {
					x = holding(x, slices.Index(x.Slots, (i*37+times)%100), tomb)
				}
				tables = append(tables, x)
			}
		}
	}
	return tables
}

func TestTidyingManyTables(t *testing.T) {
	for _, x := range append(manyTables(), largeTables()...) {
		if whole := sound(x); whole {
			checkTidied(t, x, tidiedOf(x), true)
		} else {
			checkTidied(t, x, tidied{}, false)
		}
		if t.Failed() {
			return
		}
	}
}

func TestDropKeyInManyTables(t *testing.T) {
	for _, x := range append(manyTables(), largeTables()...) {
		whole := sound(x)
		for key := range 100 {
			var want impl.Table
			slot := slices.Index(x.Slots, key)
			if whole && slot >= 0 {
				want = holding(x, slot, tomb)
			}
			if got, ok := impl.DropKey(x, key); !sameFields(got, want) || ok != (whole && slot >= 0) {
				t.Fatalf("DropKey(%v, %d) = %v, %v, not %v", x, key, got, ok, want)
			}
		}
	}
}

// dropLists are lists with keys that the small tables hold, keys that they do not, and keys that stand twice.
var dropLists = append(putLists, []int{5}, []int{6, 11}, []int{0, 4, 5, 7, 99}, []int{1, 38, 75, 12, 49, 86})

func TestDropAllInManyTables(t *testing.T) {
	for _, x := range append(manyTables(), largeTables()...) {
		whole := sound(x)
		for _, keys := range dropLists {
			var want impl.Table
			if whole {
				want = x
				for slot, holds := range x.Slots {
					if slices.Contains(keys, holds) {
						want = holding(want, slot, tomb)
					}
				}
			}
			if got, ok := impl.DropAll(x, keys); !sameFields(got, want) || ok != whole {
				t.Fatalf("DropAll(%v, %v) = %v, %v, not %v", x, keys, got, ok, want)
			}
		}
	}
}

// keeps reports whether the keys of a table are still found where they were, but for those dropped, which are not found.
func keeps(before impl.Table, after impl.Table, dropped ...int) bool {
	for slot, key := range before.Slots {
		if key < 0 {
			continue
		}
		got, ok := impl.FindKey(after, key)
		if gone := slices.Contains(dropped, key); ok == gone || !gone && got != slot {
			return false
		}
	}
	return impl.IsSound(after)
}

// TestTombsKeepKeys holds the promise itself.
func TestTombsKeepKeys(t *testing.T) {
	for _, x := range append(manyTables(), largeTables()...) {
		keys, _ := impl.KeysIn(x)
		if !impl.IsSound(x) {
			continue
		}
		for _, key := range keys {
			if y, ok := impl.DropKey(x, key); !ok || !keeps(x, y, key) {
				t.Fatalf("without %d, %v became %v", key, x, y)
			}
		}
		if y, ok := impl.DropAll(x, keys); !ok || !keeps(x, y, keys...) {
			t.Fatalf("without %v, %v became %v", keys, x, y)
		}
		if y, ok := impl.TrimTombs(x); !ok || !keeps(x, y) {
			t.Fatalf("trimmed, %v became %v", x, y)
		}
		if y, ok := impl.FewestTombs(x); !ok || !keeps(x, y) {
			t.Fatalf("with the fewest tombs, %v became %v", x, y)
		}
		y, ok := impl.CleanTable(x)
		if after, _ := impl.KeysIn(y); !ok || !impl.IsSound(y) || !slices.Equal(after, keys) || slices.Contains(y.Slots, tomb) {
			t.Fatalf("cleaned, %v became %v", x, y)
		}
	}
}

// TestFewestTombsAreNeeded holds for what FewestTombs leaves: none of the tombs can be free as well.
func TestFewestTombsAreNeeded(t *testing.T) {
	for _, x := range append(manyTables(), largeTables()...) {
		y, ok := impl.FewestTombs(x)
		if !ok {
			continue
		}
		before, _ := impl.NeededTombs(x)
		after, _ := impl.NeededTombs(y)
		_, tombs, _ := impl.CountSlots(y)
		if !slices.Equal(before, after) || len(after) != tombs {
			t.Fatalf("of %v, %v is left with the tombs %v", x, y, after)
		}
	}
}

func TestTidyingExamples(t *testing.T) {
	for _, c := range []struct {
		text, trim, clean, fewest string
		needed                    []int
	}{
		{"1+0:7 x 8 3 x . .", "1+0:7 x 8 3 . . .", "1+0:7 8 . 3 . . .", "1+0:7 x 8 3 . . .", []int{1}},
		// Tombs at the end of the ring: the first slot lies behind them.
		{"1+0:. 1 x x", "1+0:. 1 . .", "1+0:. 1 . .", "1+0:. 1 . .", nil},
		{"1+0:3 1 . x", "1+0:3 1 . x", "1+0:. 1 . 3", "1+0:3 1 . x", []int{3}},
		{"1+0:x 3 . x", "1+0:x 3 . x", "1+0:. . . 3", "1+0:x 3 . x", []int{0, 3}},
		{"1+0:x . 2 x", "1+0:. . 2 .", "1+0:. . 2 .", "1+0:. . 2 .", nil},
		{"1+0:4 . x x", "1+0:4 . x x", "1+0:4 . . .", "1+0:4 . . .", nil},
		{"1+0:x 0 . 3 x", "1+0:x 0 . 3 x", "1+0:0 . . 3 .", "1+0:x 0 . 3 .", []int{0}},
		{"1+0:x 9 . 3 x", "1+0:x 9 . 3 x", "1+0:. . . 3 9", "1+0:x 9 . 3 x", []int{0, 4}},
		// Tables of tombs alone, and of tombs and free slots.
		{"0+0:x", "0+0:x", "0+0:.", "0+0:.", nil},
		{"3+2:x x x x", "3+2:x x x x", "3+2:. . . .", "3+2:. . . .", nil},
		{"1+0:x x x .", "1+0:. . . .", "1+0:. . . .", "1+0:. . . .", nil},
		{"1+0:. x x x", "1+0:. . . .", "1+0:. . . .", "1+0:. . . .", nil},
		{"1+0:x x . x . x x", "1+0:. . . . . . .", "1+0:. . . . . . .", "1+0:. . . . . . .", nil},
		{"1+1:x x x x x x x x x x x x x x x x", "1+1:x x x x x x x x x x x x x x x x", "1+1:. . . . . . . . . . . . . . . .", "1+1:. . . . . . . . . . . . . . . .", nil},
		{"1+1:x x x x x x x x x x x x x x x .", "1+1:. . . . . . . . . . . . . . . .", "1+1:. . . . . . . . . . . . . . . .", "1+1:. . . . . . . . . . . . . . . .", nil},
		// Keys behind several tombs, right and left of other keys.
		{"1+0:x x x 0 x x .", "1+0:x x x 0 . . .", "1+0:0 . . . . . .", "1+0:x x x 0 . . .", []int{0, 1, 2}},
		{"1+0:x x 1 x 7 x .", "1+0:x x 1 x 7 . .", "1+0:7 1 . . . . .", "1+0:x x 1 x 7 . .", []int{0, 1, 3}},
		{"1+0:x 1 x 9 x . .", "1+0:x 1 x 9 . . .", "1+0:. 1 9 . . . .", "1+0:. 1 x 9 . . .", []int{2}},
		{"0+14:5 x 6 x . . . . . . . . . . x x", "0+14:5 x 6 . . . . . . . . . . . x x", "0+14:. . . . . . . . . . . . . . 5 6", "0+14:5 x 6 . . . . . . . . . . . x x", []int{1, 14, 15}},
		{"0+0:x x x x x x x x x x x x x x x 8", "0+0:x x x x x x x x x x x x x x x 8", "0+0:8 . . . . . . . . . . . . . . .", "0+0:x x x x x x x x x x x x x x x 8", []int{0, 1, 2, 3, 4, 5, 6, 7, 8, 9, 10, 11, 12, 13, 14}},
		// Without tombs: the keys that come first by their slots take the first places.
		{"1+0:. 1 2", "1+0:. 1 2", "1+0:. 1 2", "1+0:. 1 2", nil},
		{"1+0:1 2 0", "1+0:1 2 0", "1+0:0 1 2", "1+0:1 2 0", nil},
		{"1+0:9 8 3 4", "1+0:9 8 3 4", "1+0:8 9 4 3", "1+0:9 8 3 4", nil},
		{"1+0:0 x 2 5 .", "1+0:0 x 2 5 .", "1+0:0 5 2 . .", "1+0:0 x 2 5 .", []int{1}},
		{"1+0:. . .", "1+0:. . .", "1+0:. . .", "1+0:. . .", nil},
		{"15+15:99", "15+15:99", "15+15:99", "15+15:99", nil},
	} {
		x, _ := impl.ParseTable(c.text)
		want := tidied{needed: c.needed}
		want.trim, _ = impl.ParseTable(c.trim)
		want.clean, _ = impl.ParseTable(c.clean)
		want.fewest, _ = impl.ParseTable(c.fewest)
		checkTidied(t, x, want, true)
	}
}

func TestDroppingExamples(t *testing.T) {
	for _, c := range []struct {
		text string
		keys []int
		want string
	}{
		{"1+0:7 14 8 3 . . .", []int{14}, "1+0:7 x 8 3 . . ."},
		{"1+0:7 14 8 3 . . .", []int{7, 50, 3}, "1+0:x 14 8 x . . ."},
		{"1+0:7 14 8 3 . . .", []int{8, 3, 14, 7}, "1+0:x x x x . . ."},
		// A key that has been dropped is not found again.
		{"1+0:7 14 8 3 . . .", []int{3, 3, 3}, "1+0:7 14 8 x . . ."},
		{"1+0:7 14 8 3 . . .", []int{1, 0, 99}, "1+0:7 14 8 3 . . ."},
		{"1+0:7 14 8 3 . . .", nil, "1+0:7 14 8 3 . . ."},
		// Keys behind several tombs are found, and dropped.
		{"1+0:x x x 0 x x .", []int{0}, "1+0:x x x x x x ."},
		{"1+0:x 9 . 3 x", []int{9}, "1+0:x x . 3 x"},
		{"1+0:4 x x 9", []int{4}, "1+0:x x x 9"},
		{"1+0:1 2 0", []int{0}, "1+0:1 2 x"},
		{"15+15:99", []int{99}, "15+15:x"},
		{"0+0:x", []int{0}, "0+0:x"},
	} {
		x, _ := impl.ParseTable(c.text)
		if got, ok := impl.DropAll(x, c.keys); impl.FormatTable(got) != c.want || !ok {
			t.Errorf("DropAll(%s, %v) = %v, %v", c.text, c.keys, got, ok)
		}
		if len(c.keys) != 1 || c.want == c.text {
			continue
		}
		if got, ok := impl.DropKey(x, c.keys[0]); impl.FormatTable(got) != c.want || !ok {
			t.Errorf("DropKey(%s, %d) = %v, %v", c.text, c.keys[0], got, ok)
		}
	}
}

// checkNotDropped holds for a table or for keys that are refused.
func checkNotDropped(t *testing.T, why string, x impl.Table, keys ...int) {
	t.Helper()
	if got, ok := impl.DropAll(x, keys); !isZero(got) || ok {
		t.Errorf("%s: DropAll(%.10v) = %v, %v", why, keys, got, ok)
	}
	if len(keys) != 1 {
		return
	}
	if got, ok := impl.DropKey(x, keys[0]); !isZero(got) || ok {
		t.Errorf("%s: DropKey(%d) = %v, %v", why, keys[0], got, ok)
	}
}

func TestDropNoKeys(t *testing.T) {
	for text, x := range texted() {
		for _, number := range noKeys {
			checkNotDropped(t, text, x, number)
			checkNotDropped(t, text, x, 7, number)
			checkNotDropped(t, text, x, number, 99)
			checkNotDropped(t, text, x, 14, number, 0)
		}
	}
}

func TestDropListsOfAllLengths(t *testing.T) {
	x := tableOf(1, 0, 7, 14, free, 3, tomb, free, free)
	for length := 1; length <= 130; length++ {
		keys := slices.Repeat([]int{14}, length)
		if length > 100 {
			checkNotDropped(t, "too many", x, keys...)
			continue
		}
		if got, ok := impl.DropAll(x, keys); !sameFields(got, tableOf(1, 0, 7, tomb, free, 3, tomb, free, free)) || !ok {
			t.Errorf("DropAll of %d keys = %v, %v", length, got, ok)
		}
	}
	checkNotDropped(t, "very many", x, make([]int, 1<<20)...)
	checkNotDropped(t, "keys that are not there", tableOf(0, 0, free), slices.Repeat([]int{5}, 101)...)
}

func TestTombsOfNoTables(t *testing.T) {
	tables := notValid()
	for why, x := range notSound() {
		tables[why] = x
	}
	for why, x := range tables {
		checkTidied(t, x, tidied{}, false)
		checkNotDropped(t, why, x)
		for _, key := range append([]int{0, 1, 5, 6, 7, 16, 50, 99}, noKeys...) {
			checkNotDropped(t, why, x, key)
		}
		checkNotDropped(t, why, x, 7, 0)
		checkNotDropped(t, why, x, make([]int, 101)...)
	}
}

// callTombs calls every function of the chapter.
func callTombs(x impl.Table) {
	for n := -3; n <= 101; n++ {
		impl.DropKey(x, n)
	}
	for _, keys := range dropLists {
		impl.DropAll(x, keys)
	}
	impl.TrimTombs(x)
	impl.CleanTable(x)
	impl.NeededTombs(x)
	impl.FewestTombs(x)
}

func TestTablesStayWithTombs(t *testing.T) {
	checkStay(t, callTombs)
}

func TestListsStayInDropping(t *testing.T) {
	memory := []int{7, 14, 7, 3, 98, 99}
	before := slices.Clone(memory)
	impl.DropAll(tableOf(1, 0, 7, 14, 8, 3, free, free, free), memory[:4])
	if !slices.Equal(memory, before) {
		t.Errorf("the keys became %v", memory)
	}
}

func TestTombResultsShareNothing(t *testing.T) {
	memory := append(slotsWith(7, 7, tomb, 8, 3, tomb), 97, 98, 99)
	before := slices.Clone(memory)
	x := tableOf(1, 0, memory[:7]...)
	one, _ := impl.DropKey(x, 3)
	two, _ := impl.DropAll(x, []int{7, 3})
	three, _ := impl.TrimTombs(x)
	four, _ := impl.FewestTombs(x)
	five, _ := impl.CleanTable(x)
	// Nothing changes in these, but each table is one of its own all the same.
	six, _ := impl.DropAll(x, nil)
	seven, _ := impl.DropAll(x, []int{50})
	eight, _ := impl.TrimTombs(three)
	nine, _ := impl.FewestTombs(four)
	ten, _ := impl.CleanTable(five)
	checkApart(t, one, two, three, four, five, six, seven, eight, nine, ten)
	needed, _ := impl.NeededTombs(x)
	spoil(needed)
	if got, _ := impl.NeededTombs(x); !slices.Equal(got, []int{1}) {
		t.Errorf("NeededTombs = %v", got)
	}
	if !slices.Equal(memory, before) {
		t.Errorf("the slots became %v", memory)
	}
}
