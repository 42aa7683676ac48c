package tests

import (
	"math"
	"slices"
	"testing"

	"loop.example/opentables/impl"
)

func plain(x impl.Table) bool {
	return sound(x) && !slices.Contains(x.Slots, tomb)
}

// putsOf returns keys for a table of so many slots, whose homes are spread in a way that depends on Times.
func putsOf(size int, times int) []int {
	var keys []int
	for i := range size {
		keys = append(keys, (i*37+times)%100)
	}
	return keys
}

// filledTables are plain tables of all sizes and rules, without a free slot or with few of them.
func filledTables() []impl.Table {
	var tables []impl.Table
	for size := 1; size <= 16; size++ {
		for times := range 16 {
			for left := range min(size, 4) {
				x := tableOf(times, 15-times, slotsWith(size)...)
				for _, key := range putsOf(size-left, times) {
					x = holding(x, placeOf(x, key), key)
				}
				tables = append(tables, x)
			}
		}
	}
	return tables
}

// turnedRings have no free slot, and most of them are made by no order: each key waits for one behind it.
func turnedRings() []impl.Table {
	var tables []impl.Table
	for size := 1; size <= 16; size++ {
		for turn := range size {
			var slots, backward []int
			for slot := range size {
				slots = append(slots, slotAfter(size, slot+turn))
				backward = append(backward, slotAfter(size, 2*size-1-slot+turn))
			}
			tables = append(tables, tableOf(1, 0, slots...), tableOf(1, 0, backward...))
		}
	}
	return tables
}

// shiftTables are all kinds of tables, plain ones and others.
func shiftTables() []impl.Table {
	return slices.Concat(manyTables(), largeTables(), filledTables(), turnedRings())
}

// shiftedBy drops a key from a plain table and looks for all keys again: the first lost one behind the hole goes into it.
func shiftedBy(x impl.Table, key int) (impl.Table, []int) {
	size := len(x.Slots)
	hole := slices.Index(x.Slots, key)
	x = holding(x, hole, free)
	var moves []int
	for behind := 1; behind < size; behind++ {
		slot := slotAfter(size, hole+behind)
		moved := x.Slots[slot]
		if moved < 0 || slices.Contains(visited(x, moved), moved) {
			continue
		}
		x = holding(holding(x, hole, moved), slot, free)
		moves = append(moves, moved)
		hole, behind = slot, 0
	}
	return x, moves
}

// checkShift compares what the functions return with what they should, if the table is plain and has the key.
func checkShift(t *testing.T, x impl.Table, key int, want impl.Table, moves []int, whole bool) {
	t.Helper()
	if got, ok := impl.DropShift(x, key); !sameFields(got, want) || ok != whole {
		t.Fatalf("DropShift(%v, %d) = %v, %v, not %v", x, key, got, ok, want)
	}
	if got, ok := impl.MovesBy(x, key); !slices.Equal(got, moves) || ok != whole {
		t.Fatalf("MovesBy(%v, %d) = %v, %v, not %v", x, key, got, ok, moves)
	}
}

func TestDropShiftInManyTables(t *testing.T) {
	for _, x := range shiftTables() {
		smooth := plain(x)
		for key := range 100 {
			if !smooth || !slices.Contains(x.Slots, key) {
				checkShift(t, x, key, impl.Table{}, nil, false)
				continue
			}
			want, moves := shiftedBy(x, key)
			checkShift(t, x, key, want, moves, true)
		}
	}
}

// TestShiftingKeepsKeys holds for all keys but the one that is dropped: they are found, and the table is plain.
func TestShiftingKeepsKeys(t *testing.T) {
	for _, x := range shiftTables() {
		keys, _ := impl.KeysIn(x)
		for i, key := range keys {
			y, ok := impl.DropShift(x, key)
			if !ok {
				continue
			}
			after, _ := impl.KeysIn(y)
			if !plain(y) || !slices.Equal(after, slices.Delete(slices.Clone(keys), i, i+1)) {
				t.Fatalf("without %d, %v became %v", key, x, y)
			}
		}
	}
}

// checkNeverPut holds the promise itself: when a key that was put is dropped, nothing tells that it was put.
func checkNeverPut(t *testing.T, x impl.Table, keys []int) {
	t.Helper()
	y, ok := impl.PutAll(x, keys)
	if !ok {
		return
	}
	for _, key := range keys {
		if slices.Contains(x.Slots, key) {
			continue
		}
		others := slices.DeleteFunc(slices.Clone(keys), func(k int) bool { return k == key })
		want, _ := impl.PutAll(x, others)
		if got, ok := impl.DropShift(y, key); !sameFields(got, want) || !ok {
			t.Fatalf("with %v put into %v and %d dropped: %v, %v, not %v", keys, x, key, got, ok, want)
		}
	}
}

func TestNeverPutIntoManyTables(t *testing.T) {
	lists := append(dropLists, []int{1, 4, 9, 2}, []int{8, 6}, []int{12, 18, 0})
	for _, x := range manyTables() {
		if !plain(x) {
			continue
		}
		for _, keys := range lists {
			checkNeverPut(t, x, keys)
		}
	}
}

// TestNeverPutIntoLargeTables begins with free slots and with some that are taken, and fills all.
func TestNeverPutIntoLargeTables(t *testing.T) {
	for size := 1; size <= 16; size++ {
		for times := range 16 {
			x := tableOf(times, 3, slotsWith(size)...)
			keys := putsOf(size, times)
			for i, key := range keys {
				checkNeverPut(t, x, keys[i:])
				checkNeverPut(t, x, keys[i:(i+size)/2])
				x = holding(x, placeOf(x, key), key)
			}
		}
	}
}

func TestShiftAllInManyTables(t *testing.T) {
	for _, x := range shiftTables() {
		smooth := plain(x)
		for _, keys := range dropLists {
			var want impl.Table
			if smooth {
				want = x
			}
			for _, key := range keys {
				if slices.Contains(want.Slots, key) {
					want, _ = shiftedBy(want, key)
				}
			}
			if got, ok := impl.ShiftAll(x, keys); !sameFields(got, want) || ok != smooth {
				t.Fatalf("ShiftAll(%v, %v) = %v, %v, not %v", x, keys, got, ok, want)
			}
		}
	}
}

func TestDropShiftExamples(t *testing.T) {
	for _, c := range []struct {
		text  string
		key   int
		want  string
		moves []int
	}{
		{"1+0:7 14 8 3 . . .", 7, "1+0:14 8 . 3 . . .", []int{14, 8}},
		{"1+0:7 14 8 3 . . .", 14, "1+0:7 8 . 3 . . .", []int{8}},
		{"1+0:7 14 8 3 . . .", 8, "1+0:7 14 . 3 . . .", nil},
		{"1+0:7 14 8 3 . . .", 3, "1+0:7 14 8 . . . .", nil},
		// Keys stay at their homes behind the hole, or too near to them.
		{"1+0:0 1 2 3 . . .", 0, "1+0:. 1 2 3 . . .", nil},
		{"1+0:0 1 8 2 . . .", 0, "1+0:. 1 8 2 . . .", nil},
		{"1+0:0 1 8 2 . . .", 1, "1+0:0 8 2 . . . .", []int{8, 2}},
		// Keys behind those that stay are shifted past them.
		{"1+0:0 1 7 3 . . .", 0, "1+0:7 1 . 3 . . .", []int{7}},
		{"1+0:0 1 2 3 7 8 .", 0, "1+0:7 1 2 3 8 . .", []int{7, 8}},
		{"1+0:0 1 2 3 7 8 .", 1, "1+0:0 7 2 3 8 . .", []int{7, 8}},
		{"1+0:0 1 2 9 8 4 7", 1, "1+0:0 8 2 9 4 7 .", []int{8, 4, 7}},
		// Behind a free slot nothing is shifted.
		{"1+0:0 . 2 9 . . .", 0, "1+0:. . 2 9 . . .", nil},
		{"1+0:0 7 . 3 10 . .", 0, "1+0:7 . . 3 10 . .", []int{7}},
		// Around the end of the ring.
		{"1+0:13 20 . . . . 6", 6, "1+0:20 . . . . . 13", []int{13, 20}},
		{"1+0:13 20 . . . . 6", 13, "1+0:20 . . . . . 6", []int{20}},
		{"1+0:13 1 20 . . 5 6", 5, "1+0:13 1 20 . . . 6", nil},
		{"1+0:13 0 . . . 5 12", 12, "1+0:0 . . . . 5 13", []int{13, 0}},
		{"1+0:13 0 . . . 5 12", 5, "1+0:0 . . . . 12 13", []int{12, 13, 0}},
		// Rings without a free slot: what is gone through ends at the hole.
		{"1+0:1 0 2", 1, "1+0:0 . 2", []int{0}},
		{"1+0:1 0 2", 0, "1+0:. 1 2", []int{1}},
		{"1+0:1 0", 1, "1+0:0 .", []int{0}},
		{"1+0:1 0", 0, "1+0:. 1", []int{1}},
		{"1+0:0 1 2 3", 2, "1+0:0 1 . 3", nil},
		{"1+0:4 0 1 2", 2, "1+0:4 0 1 .", nil},
		{"1+0:4 0 1 2", 4, "1+0:0 1 2 .", []int{0, 1, 2}},
		{"1+0:3 0 1 2", 3, "1+0:0 1 2 .", []int{0, 1, 2}},
		{"1+0:3 0 1 2", 0, "1+0:. 1 2 3", []int{1, 2, 3}},
		// Keys are shifted into a hole, and on from there.
		{"1+0:0 2 1", 0, "1+0:. 1 2", []int{2, 1, 2}},
		{"1+0:2 1 0", 1, "1+0:0 . 2", []int{0, 2, 0}},
		{"1+0:1 2 3 0", 1, "1+0:0 . 2 3", []int{2, 3, 0, 2, 3, 0, 2, 3, 0}},
		{"0+0:1 2 3 4", 1, "0+0:2 3 4 .", []int{2, 3, 4}},
		{"0+2:1 2 3 4", 3, "0+2:2 . 4 1", []int{4, 1, 2}},
		{"0+0:5", 5, "0+0:.", nil},
		{"15+15:99", 99, "15+15:.", nil},
		{"1+0:0 .", 0, "1+0:. .", nil},
		{"1+0:2 0", 0, "1+0:2 .", nil},
	} {
		x, _ := impl.ParseTable(c.text)
		want, _ := impl.ParseTable(c.want)
		checkShift(t, x, c.key, want, c.moves, true)
	}
}

func TestShiftAllExamples(t *testing.T) {
	for _, c := range []struct {
		text string
		keys []int
		want string
	}{
		{"1+0:7 14 8 3 . . .", []int{7}, "1+0:14 8 . 3 . . ."},
		{"1+0:7 14 8 3 . . .", []int{14, 50, 7}, "1+0:. 8 . 3 . . ."},
		{"1+0:7 14 8 3 . . .", []int{8, 3, 14, 7}, "1+0:. . . . . . ."},
		// A key that has been dropped is not found again.
		{"1+0:7 14 8 3 . . .", []int{7, 7, 7}, "1+0:14 8 . 3 . . ."},
		{"1+0:7 14 8 3 . . .", []int{0, 1, 99}, "1+0:7 14 8 3 . . ."},
		{"1+0:7 14 8 3 . . .", nil, "1+0:7 14 8 3 . . ."},
		{"1+0:13 20 . . . . 6", []int{6, 13}, "1+0:. . . . . . 20"},
		{"1+0:0 2 1", []int{0, 1}, "1+0:. . 2"},
		{"1+0:1 0", []int{1, 0}, "1+0:. ."},
		{"0+0:5", []int{5, 5}, "0+0:."},
		{"0+0:.", []int{5}, "0+0:."},
	} {
		x, _ := impl.ParseTable(c.text)
		if got, ok := impl.ShiftAll(x, c.keys); impl.FormatTable(got) != c.want || !ok {
			t.Errorf("ShiftAll(%s, %v) = %v, %v", c.text, c.keys, got, ok)
		}
	}
}

// checkOrder compares what the functions return with an order, if there is one.
func checkOrder(t *testing.T, x impl.Table, order []int, whole bool) {
	t.Helper()
	if got, ok := impl.MakeOrder(x); !slices.Equal(got, order) || ok != whole {
		t.Fatalf("MakeOrder(%v) = %v, %v, not %v, %v", x, got, ok, order, whole)
	}
	if got := impl.IsMade(x); got != whole {
		t.Fatalf("IsMade(%v) = %v", x, got)
	}
}

// ordersOf returns all orders of some ascending keys, one ahead of another if it has the less key where they differ first.
func ordersOf(keys []int) [][]int {
	if len(keys) == 0 {
		return [][]int{nil}
	}
	var orders [][]int
	for i, first := range keys {
		for _, rest := range ordersOf(slices.Delete(slices.Clone(keys), i, i+1)) {
			orders = append(orders, append([]int{first}, rest...))
		}
	}
	return orders
}

// firstOrder tries all orders.
func firstOrder(x impl.Table) ([]int, bool) {
	keys := slices.DeleteFunc(slices.Sorted(slices.Values(x.Slots)), func(holds int) bool { return holds < 0 })
	empty := tableOf(x.Times, x.Plus, slotsWith(len(x.Slots))...)
	for _, order := range ordersOf(keys) {
		y := empty
		for _, key := range order {
			y = holding(y, placeOf(y, key), key)
		}
		if sameFields(x, y) {
			return order, true
		}
	}
	return nil, false
}

func TestOrdersOfManyTables(t *testing.T) {
	tables := append(manyTables(), smallTables(5, 1, 0, 0, 1, 2, 8, 9)...)
	made, others := 0, 0
	for _, x := range tables {
		if !plain(x) {
			checkOrder(t, x, nil, false)
			continue
		}
		order, whole := firstOrder(x)
		checkOrder(t, x, order, whole)
		// Only a ring without a free slot is plain and made by no order.
		if whole {
			made++
		} else if others++; slices.Contains(x.Slots, free) {
			t.Fatalf("%v is made by no order", x)
		}
	}
	if made == 0 || others == 0 {
		t.Errorf("%d tables are made, %d are not", made, others)
	}
}

// putInto puts those keys of a table that come into their slots there, the least one first, as long as there is one.
func putInto(x impl.Table) []int {
	keys := slices.DeleteFunc(slices.Sorted(slices.Values(x.Slots)), func(holds int) bool { return holds < 0 })
	y := tableOf(x.Times, x.Plus, slotsWith(len(x.Slots))...)
	var order []int
	for {
		next := slices.IndexFunc(keys, func(key int) bool {
			place := placeOf(y, key)
			return place >= 0 && x.Slots[place] == key
		})
		if next < 0 {
			return order
		}
		y = holding(y, placeOf(y, keys[next]), keys[next])
		order = append(order, keys[next])
		keys = slices.Delete(keys, next, next+1)
	}
}

func TestOrdersOfLargeTables(t *testing.T) {
	for _, x := range slices.Concat(largeTables(), filledTables(), turnedRings()) {
		order := putInto(x)
		held, _, _ := impl.CountSlots(x)
		if !plain(x) || len(order) < held {
			checkOrder(t, x, nil, false)
			continue
		}
		checkOrder(t, x, order, true)
		if y, ok := impl.PutAll(tableOf(x.Times, x.Plus, slotsWith(len(x.Slots))...), order); !sameFields(x, y) || !ok {
			t.Fatalf("%v makes %v, not %v", order, y, x)
		}
	}
}

func TestOrderExamples(t *testing.T) {
	for _, c := range []struct {
		text  string
		order []int
	}{
		{"1+0:7 14 8 3 . . .", []int{3, 7, 14, 8}},
		{"1+0:13 20 . . . . 6", []int{6, 13, 20}},
		{"1+0:4 1 . .", []int{1, 4}},
		// The least key may come last, though nothing waits for it.
		{"1+0:7 14 0 . . . .", []int{7, 14, 0}},
		{"1+0:9 10 2", []int{2, 9, 10}},
		{"1+0:98 1 0 3 . . .", []int{1, 3, 98, 0}},
		{"1+0:5 1 2 0 .", []int{1, 2, 5, 0}},
		{"1+0:14 1 7 8 . 5 6", []int{1, 5, 6, 14, 7, 8}},
		{"0+0:3 2 1 0", []int{3, 2, 1, 0}},
		{"1+0:2 1 0", nil},
		{"1+0:5 1 0", nil},
		{"1+0:5 1 2", []int{1, 2, 5}},
		{"1+0:3 4 5", []int{3, 4, 5}},
		// Rings without a free slot in which keys wait for each other, all of them or some.
		{"1+0:1 0", nil},
		{"1+0:1 2 0", nil},
		{"1+0:2 0 1", nil},
		{"1+0:0 2 1", nil},
		{"1+0:0 1 2 3", []int{0, 1, 2, 3}},
		{"1+0:3 1 2 0", nil},
		{"1+0:7 1 2 3", []int{1, 2, 3, 7}},
		{"1+0:2 1 6 3", []int{1, 3, 6, 2}},
		{"15+15:99", []int{99}},
	} {
		x, _ := impl.ParseTable(c.text)
		checkOrder(t, x, c.order, c.order != nil)
	}
	// Nothing is put, which is an order too.
	for _, text := range []string{"0+0:.", "1+0:. .", "15+15:. . . . . . . . . . . . . . . ."} {
		x, _ := impl.ParseTable(text)
		checkOrder(t, x, nil, true)
	}
}

func TestAtHomeInManyTables(t *testing.T) {
	for _, x := range shiftTables() {
		var want []int
		for key := range 100 {
			if row(x, key)[0] == key {
				want = append(want, key)
			}
		}
		if got, ok := impl.AtHome(x); !slices.Equal(got, want) || !ok {
			t.Fatalf("AtHome(%v) = %v, %v, not %v", x, got, ok, want)
		}
	}
}

func TestAtHomeExamples(t *testing.T) {
	for _, c := range []struct {
		x    impl.Table
		want []int
	}{
		{tableOf(1, 0, 7, 14, 8, 3, free, free, free), []int{3, 7}},
		{tableOf(1, 0, 13, 20, free, free, free, free, 6), []int{6}},
		// A table need be neither plain nor sound for that.
		{tableOf(1, 0, 7, tomb, 8, 3, tomb, free, free), []int{3, 7}},
		{tableOf(1, 0, free, 0, free, 7), []int{7}},
		{tableOf(1, 0, free, 0, free, 6), nil},
		{tableOf(1, 0, 1, 0), nil},
		{tableOf(1, 0, 8, 5, 2, 3), []int{2, 3, 5, 8}},
		{tableOf(0, 1, 3, 9), []int{9}},
		{tableOf(0, 0, free), nil},
		{tableOf(0, 0, tomb), nil},
		{tableOf(15, 15, 99), []int{99}},
	} {
		if got, ok := impl.AtHome(c.x); !slices.Equal(got, c.want) || !ok {
			t.Errorf("AtHome(%v) = %v, %v, not %v", c.x, got, ok, c.want)
		}
	}
}

// checkNotShifted holds for a table or for keys that are refused.
func checkNotShifted(t *testing.T, why string, x impl.Table, keys ...int) {
	t.Helper()
	if got, ok := impl.ShiftAll(x, keys); !isZero(got) || ok {
		t.Errorf("%s: ShiftAll(%.10v) = %v, %v", why, keys, got, ok)
	}
	if len(keys) == 1 {
		checkShift(t, x, keys[0], impl.Table{}, nil, false)
	}
}

func TestShiftNoKeys(t *testing.T) {
	tables := texted()
	tables["plain"] = tableOf(1, 0, 7, 14, 8, 3, free, free, free)
	tables["free"] = tableOf(1, 0, slotsWith(16)...)
	tables["full"] = tableOf(1, 0, 1, 0)
	for text, x := range tables {
		for _, number := range noKeys {
			checkNotShifted(t, text, x, number)
			checkNotShifted(t, text, x, 7, number)
			checkNotShifted(t, text, x, number, 99)
			checkNotShifted(t, text, x, 14, number, 0)
		}
	}
}

func TestShiftKeysThatAreNotThere(t *testing.T) {
	for _, x := range []impl.Table{tableOf(1, 0, 7, 14, 8, 3, free, free, free), tableOf(1, 0, 1, 2, 0), tableOf(0, 0, free), tableOf(0, 0, 9)} {
		for _, key := range []int{4, 5, 50, 98, 99} {
			checkShift(t, x, key, impl.Table{}, nil, false)
			if got, ok := impl.ShiftAll(x, []int{key}); !sameFields(got, x) || !ok {
				t.Errorf("ShiftAll(%v, %d) = %v, %v", x, key, got, ok)
			}
		}
	}
}

func TestShiftListsOfAllLengths(t *testing.T) {
	x := tableOf(1, 0, 7, 14, 8, 3, free, free, free)
	for length := 1; length <= 130; length++ {
		keys := slices.Repeat([]int{7}, length)
		if length > 100 {
			checkNotShifted(t, "too many", x, keys...)
			continue
		}
		if got, ok := impl.ShiftAll(x, keys); !sameFields(got, tableOf(1, 0, 14, 8, free, 3, free, free, free)) || !ok {
			t.Errorf("ShiftAll of %d keys = %v, %v", length, got, ok)
		}
	}
	checkNotShifted(t, "very many", x, make([]int, 1<<20)...)
	checkNotShifted(t, "keys that are not there", tableOf(0, 0, free), slices.Repeat([]int{5}, 101)...)
}

// withTombs are sound tables that are not plain.
func withTombs() map[string]impl.Table {
	return map[string]impl.Table{
		"a needed tomb":         tableOf(1, 0, 7, tomb, 8, 3, free, free, free),
		"a tomb behind a key":   tableOf(1, 0, 7, tomb, free, 3),
		"a tomb far from keys":  tableOf(1, 0, 7, free, free, tomb, free),
		"a tomb in a full ring": tableOf(1, 0, 0, 5, tomb, 7),
		"tombs alone":           tableOf(1, 0, tomb, tomb),
		"one tomb":              tableOf(0, 0, tomb),
	}
}

func TestShiftingNoPlainTables(t *testing.T) {
	tables := notValid()
	for why, x := range tables {
		if got, ok := impl.AtHome(x); len(got) != 0 || ok {
			t.Errorf("%s: AtHome = %v, %v", why, got, ok)
		}
	}
	for why, x := range notSound() {
		tables[why] = x
	}
	for why, x := range withTombs() {
		tables[why] = x
	}
	for why, x := range tables {
		checkOrder(t, x, nil, false)
		checkNotShifted(t, why, x)
		for _, key := range append([]int{0, 1, 3, 5, 6, 7, 16, 50, 99}, noKeys...) {
			checkNotShifted(t, why, x, key)
		}
		checkNotShifted(t, why, x, 7, 0)
		checkNotShifted(t, why, x, math.MaxInt, 7)
		checkNotShifted(t, why, x, make([]int, 101)...)
	}
}

// callShifts calls every function of the chapter.
func callShifts(x impl.Table) {
	for n := -3; n <= 101; n++ {
		impl.DropShift(x, n)
		impl.MovesBy(x, n)
	}
	for _, keys := range dropLists {
		impl.ShiftAll(x, keys)
	}
	impl.MakeOrder(x)
	impl.IsMade(x)
	impl.AtHome(x)
}

func TestTablesStayInShifting(t *testing.T) {
	checkStay(t, callShifts)
	// Here keys are shifted, or wait for each other.
	for _, slots := range [][]int{{7, 14, 8, 3, free, free, free}, {13, 20, free, free, free, free, 6}, {0, 2, 1}, {4, 0, 1, 2}} {
		memory := append(slices.Clone(slots), 77, 78)
		before := slices.Clone(memory)
		callShifts(tableOf(1, 0, memory[:len(slots)]...))
		if !slices.Equal(memory, before) {
			t.Errorf("the slots became %v", memory)
		}
	}
}

func TestListsStayInShifting(t *testing.T) {
	memory := []int{7, 14, 7, 3, 98, 99}
	before := slices.Clone(memory)
	impl.ShiftAll(tableOf(1, 0, 7, 14, 8, 3, free, free, free), memory[:4])
	if !slices.Equal(memory, before) {
		t.Errorf("the keys became %v", memory)
	}
}

func TestShiftResultsShareNothing(t *testing.T) {
	memory := append(slotsWith(7, 7, 14, 8, 3), 97, 98, 99)
	before := slices.Clone(memory)
	x := tableOf(1, 0, memory[:7]...)
	one, _ := impl.DropShift(x, 7)
	two, _ := impl.DropShift(x, 3)
	three, _ := impl.ShiftAll(x, []int{7, 3})
	// Nothing changes in these, but each table is one of its own all the same.
	four, _ := impl.ShiftAll(x, nil)
	five, _ := impl.ShiftAll(x, []int{50})
	checkApart(t, one, two, three, four, five)
	moves, _ := impl.MovesBy(x, 7)
	order, _ := impl.MakeOrder(x)
	home, _ := impl.AtHome(x)
	spoil(moves)
	if !slices.Equal(order, []int{3, 7, 14, 8}) || !slices.Equal(home, []int{3, 7}) {
		t.Errorf("the order became %v, the keys at home %v", order, home)
	}
	spoil(order)
	spoil(home)
	if !slices.Equal(memory, before) {
		t.Errorf("the slots became %v", memory)
	}
}
