package tests

import (
	"fmt"
	"math"
	"slices"
	"testing"

	"loop.example/opentables/impl"
)

// keysOf reads the keys of a table off its slots, in ascending order.
func keysOf(x impl.Table) []int {
	return slices.DeleteFunc(slices.Sorted(slices.Values(x.Slots)), func(holds int) bool { return holds < 0 })
}

// freeSlots counts them.
func freeSlots(x impl.Table) int {
	return len(slices.DeleteFunc(slices.Clone(x.Slots), func(holds int) bool { return holds != free }))
}

// stands reports whether a key of a table stands ahead of another one that has come so far to the same slot.
func stands(x impl.Table, here int, key int, come int) bool {
	lies := slices.Index(row(x, here), here)
	return lies > come || lies == come && here < key
}

// fair holds a table against the definition, key by key and slot by slot.
func fair(x impl.Table) bool {
	if !plain(x) || freeSlots(x) == 0 {
		return false
	}
	for _, key := range keysOf(x) {
		line := row(x, key)
		for come, here := range line[:slices.Index(line, key)] {
			if !stands(x, here, key, come) {
				return false
			}
		}
	}
	return true
}

// alike reports whether a table is fair, and has some ascending keys and the rule and the size of another one. There is one such table at most.
func alike(got impl.Table, x impl.Table, keys []int) bool {
	return got.Times == x.Times && got.Plus == x.Plus && len(got.Slots) == len(x.Slots) && slices.Equal(keysOf(got), keys) && fair(got)
}

// withKey returns ascending keys with one more among them.
func withKey(keys []int, key int) []int {
	return slices.Sorted(slices.Values(append(slices.Clone(keys), key)))
}

// withoutKey returns keys but for one.
func withoutKey(keys []int, key int) []int {
	return slices.DeleteFunc(slices.Clone(keys), func(k int) bool { return k == key })
}

// changedBy returns the keys that lie elsewhere once a key has been put into a fair table, in the order of the slots from the home of the key on.
func changedBy(before impl.Table, after impl.Table, key int) []int {
	var keys []int
	was, is := row(before, key), row(after, key)
	for place, holds := range was {
		if holds >= 0 && is[place] != holds {
			keys = append(keys, holds)
		}
	}
	return keys
}

// fairVisitsOf counts the slots up to the first one that ends the search for a key in a fair table.
func fairVisitsOf(x impl.Table, key int) int {
	for come, here := range row(x, key) {
		if here < 0 || here == key || !stands(x, here, key, come) {
			return come + 1
		}
	}
	return -1
}

// poorTables are all kinds of tables, fair ones and others.
func poorTables() []impl.Table {
	return slices.Concat(manyTables(), smallTables(5, 1, 0, 0, 1, 5, 6), largeTables(), filledTables(), turnedRings())
}

// fairTables are those of them that are fair, and fair tables of all sizes and rules that fill up, to the last free slot.
func fairTables() []impl.Table {
	tables := slices.DeleteFunc(poorTables(), func(x impl.Table) bool { return !fair(x) })
	for size := 2; size <= 16; size++ {
		for _, rule := range [][2]int{{0, 0}, {0, 9}, {1, 0}, {1, 15}, {2, 1}, {7, 3}, {8, 15}, {15, 15}} {
			x := tableOf(rule[0], rule[1], slotsWith(size)...)
			for _, key := range putsOf(size-1, rule[0]) {
				x, _ = impl.FairPut(x, key)
				tables = append(tables, x)
			}
		}
	}
	return tables
}

func TestIsFairInManyTables(t *testing.T) {
	fairs, others := 0, 0
	for _, x := range poorTables() {
		want := fair(x)
		if got := impl.IsFair(x); got != want {
			t.Fatalf("IsFair(%v) = %v", x, got)
		}
		if want {
			fairs++
		} else if plain(x) && freeSlots(x) > 0 {
			others++
		}
	}
	if fairs == 0 || others == 0 {
		t.Errorf("%d plain tables with free slots are fair, %d are not", fairs, others)
	}
}

// TestOneFairTable tries all small tables: of those with the same keys one is fair, if a slot is left free, and FairOf makes it of all.
func TestOneFairTable(t *testing.T) {
	for _, rule := range [][2]int{{0, 0}, {0, 3}, {1, 0}, {1, 4}, {3, 2}, {15, 15}} {
		for size := 1; size <= 4; size++ {
			tables := smallTables(size, rule[0], rule[1], 0, 1, 4, 5, 8)
			only := map[string]impl.Table{}
			for _, x := range tables {
				if !fair(x) {
					continue
				}
				name := fmt.Sprint(keysOf(x))
				if other, ok := only[name]; ok {
					t.Fatalf("%v and %v are fair", other, x)
				}
				only[name] = x
			}
			for _, x := range tables {
				want, whole := only[fmt.Sprint(keysOf(x))]
				if whole != (len(keysOf(x)) < size) {
					t.Fatalf("a fair table of the keys of %v: %v", x, whole)
				}
				if got, ok := impl.FairOf(x); !sameFields(got, want) || ok != whole {
					t.Fatalf("FairOf(%v) = %v, %v, not %v", x, got, ok, want)
				}
			}
		}
	}
}

func TestFairOfManyTables(t *testing.T) {
	for _, x := range poorTables() {
		keys := keysOf(x)
		got, ok := impl.FairOf(x)
		if len(keys) == len(x.Slots) {
			if !isZero(got) || ok {
				t.Fatalf("FairOf(%v) = %v, %v", x, got, ok)
			}
			continue
		}
		if !alike(got, x, keys) || !ok {
			t.Fatalf("FairOf(%v) = %v, %v", x, got, ok)
		}
		if fair(x) && !sameFields(got, x) {
			t.Fatalf("FairOf(%v), which is fair, = %v", x, got)
		}
	}
}

// checkNoFairPut holds for a table or a key that is refused.
func checkNoFairPut(t *testing.T, x impl.Table, key int) {
	t.Helper()
	if got, ok := impl.FairPut(x, key); !isZero(got) || ok {
		t.Fatalf("FairPut(%v, %d) = %v, %v", x, key, got, ok)
	}
	if got, ok := impl.SwapsBy(x, key); len(got) != 0 || ok {
		t.Fatalf("SwapsBy(%v, %d) = %v, %v", x, key, got, ok)
	}
}

// checkFairPut holds for a fair table and a key.
func checkFairPut(t *testing.T, x impl.Table, key int) {
	t.Helper()
	if got, want := impl.FairVisits(x, key), fairVisitsOf(x, key); got != want {
		t.Fatalf("FairVisits(%v, %d) = %d, not %d", x, key, got, want)
	}
	if slices.Contains(x.Slots, key) || freeSlots(x) < 2 {
		checkNoFairPut(t, x, key)
		return
	}
	y, ok := impl.FairPut(x, key)
	if !alike(y, x, withKey(keysOf(x), key)) || !ok {
		t.Fatalf("FairPut(%v, %d) = %v, %v", x, key, y, ok)
	}
	if got, want := impl.FairVisits(x, key), slices.Index(row(y, key), key)+1; got != want {
		t.Fatalf("FairVisits(%v, %d) = %d, and the key comes to the slot %d", x, key, got, want)
	}
	want := changedBy(x, y, key)
	if got, ok := impl.SwapsBy(x, key); !slices.Equal(got, want) || !ok {
		t.Fatalf("SwapsBy(%v, %d) = %v, %v, not %v", x, key, got, ok, want)
	}
}

func TestFairPutIntoFairTables(t *testing.T) {
	for _, x := range fairTables() {
		for key := range 100 {
			checkFairPut(t, x, key)
		}
	}
}

func TestFairDropFromFairTables(t *testing.T) {
	for _, x := range fairTables() {
		for key := range 100 {
			got, ok := impl.FairDrop(x, key)
			if !slices.Contains(x.Slots, key) {
				if !isZero(got) || ok {
					t.Fatalf("FairDrop(%v, %d) = %v, %v", x, key, got, ok)
				}
				continue
			}
			if !alike(got, x, withoutKey(keysOf(x), key)) || !ok {
				t.Fatalf("FairDrop(%v, %d) = %v, %v", x, key, got, ok)
			}
			if back, ok := impl.FairPut(got, key); !sameFields(back, x) || !ok {
				t.Fatalf("with %d dropped and put again, %v became %v", key, x, back)
			}
		}
	}
}

// fairAllOf tells the keys that a fair table has once keys have been put into it, and whether there is room for all.
func fairAllOf(x impl.Table, list []int) ([]int, bool) {
	keys := keysOf(x)
	for _, key := range list {
		if slices.Contains(keys, key) {
			continue
		}
		if len(x.Slots)-len(keys) < 2 {
			return nil, false
		}
		keys = withKey(keys, key)
	}
	return keys, true
}

func TestFairAllInManyTables(t *testing.T) {
	for _, x := range append(poorTables(), fairTables()...) {
		whole := fair(x)
		for _, list := range dropLists {
			keys, room := fairAllOf(x, list)
			got, ok := impl.FairAll(x, list)
			if !whole || !room {
				if !isZero(got) || ok {
					t.Fatalf("FairAll(%v, %v) = %v, %v", x, list, got, ok)
				}
				continue
			}
			if !alike(got, x, keys) || !ok {
				t.Fatalf("FairAll(%v, %v) = %v, %v", x, list, got, ok)
			}
		}
	}
}

// TestFairTablesInAllOrders holds the promise itself.
func TestFairTablesInAllOrders(t *testing.T) {
	for _, c := range []struct {
		x    impl.Table
		keys []int
	}{
		{tableOf(1, 0, slotsWith(7)...), []int{1, 7, 8, 14, 15}},
		{tableOf(1, 0, slotsWith(6)...), []int{4, 5, 10, 11, 16}},
		{tableOf(1, 0, slotsWith(6)...), []int{0, 5, 6, 11, 17}},
		{tableOf(1, 0, slotsWith(16, 0, 16, 32)...), []int{15, 31, 47, 1, 48}},
		{tableOf(0, 5, slotsWith(6)...), []int{0, 1, 50, 98, 99}},
		{tableOf(2, 1, slotsWith(8)...), []int{3, 7, 11, 0, 2}},
		{tableOf(15, 15, slotsWith(5)...), []int{0, 1, 98, 99}},
		{tableOf(1, 0, slotsWith(2)...), []int{1}},
		{tableOf(1, 0, slotsWith(1)...), nil},
	} {
		want, _ := impl.FairAll(c.x, c.keys)
		for _, order := range ordersOf(c.keys) {
			got, ok := impl.FairAll(c.x, order)
			if !alike(got, c.x, slices.Sorted(slices.Values(append(keysOf(c.x), c.keys...)))) || !sameFields(got, want) || !ok {
				t.Fatalf("FairAll(%v, %v) = %v, %v, not %v", c.x, order, got, ok, want)
			}
		}
	}
}

func TestFairAllExamples(t *testing.T) {
	for _, c := range []struct {
		text        string
		keys        []int
		want        string
		most, total int
	}{
		{"1+0:. . . . . . .", []int{14, 7, 8, 1}, "1+0:7 14 1 8 . . .", 2, 4},
		{"1+0:. . . . . . .", []int{1, 8, 7, 14}, "1+0:7 14 1 8 . . .", 2, 4},
		{"1+0:. . . . . . .", []int{8, 1, 14, 7, 1, 8}, "1+0:7 14 1 8 . . .", 2, 4},
		{"1+0:. . . . . . .", []int{13, 6, 0}, "1+0:13 0 . . . . 6", 1, 2},
		{"1+0:. . . . . . .", []int{0, 13, 6}, "1+0:13 0 . . . . 6", 1, 2},
		{"1+0:. . . . . . .", []int{20, 13, 6, 5, 0}, "1+0:13 20 0 . . 5 6", 2, 5},
		{"1+0:. . . .", []int{3, 7, 0}, "1+0:7 0 . 3", 1, 2},
		{"1+0:. . . .", []int{7, 3, 2}, "1+0:7 . 2 3", 1, 1},
		{"0+2:. . . .", []int{99, 50, 0}, "0+2:99 . 0 50", 2, 3},
		{"1+0:7 14 1 8 . . .", []int{21, 2}, "1+0:7 14 21 1 8 2 .", 3, 11},
		// One slot stays free: a table with one has no room for another key, but for those that it has.
		{"1+0:0 . 2", []int{0, 2, 2, 0}, "1+0:0 . 2", 0, 0},
		{"1+0:. . 2", []int{0, 2}, "1+0:0 . 2", 0, 0},
		{"1+0:0 . 2", nil, "1+0:0 . 2", 0, 0},
		{"1+0:0 .", []int{0}, "1+0:0 .", 0, 0},
		{"1+0:. .", []int{3}, "1+0:. 3", 0, 0},
		{"0+0:.", nil, "0+0:.", 0, 0},
		{"1+0:0 . 2", []int{1}, "", -1, -1},
		{"1+0:0 . 2", []int{0, 1}, "", -1, -1},
		{"1+0:. . 2", []int{0, 1}, "", -1, -1},
		{"1+0:. .", []int{3, 0}, "", -1, -1},
		{"0+0:.", []int{5}, "", -1, -1},
	} {
		x, _ := impl.ParseTable(c.text)
		got, ok := impl.FairAll(x, c.keys)
		if impl.FormatTable(got) != c.want || ok != (c.want != "") || impl.IsFair(got) != ok || !ok && !isZero(got) {
			t.Errorf("FairAll(%s, %v) = %v, %v", c.text, c.keys, got, ok)
		}
		if most, total := impl.MostAway(got), impl.TotalAway(got); most != c.most || total != c.total {
			t.Errorf("in %v, MostAway = %d, TotalAway = %d", got, most, total)
		}
	}
}

func TestFairPutExamples(t *testing.T) {
	for _, c := range []struct {
		text   string
		key    int
		want   string
		swaps  []int
		visits int
	}{
		{"1+0:7 14 1 8 . . .", 0, "1+0:0 7 14 1 8 . .", []int{7, 14, 1, 8}, 1},
		{"1+0:7 14 1 8 . . .", 21, "1+0:7 14 21 1 8 . .", []int{1, 8}, 3},
		{"1+0:7 14 1 8 . . .", 15, "1+0:7 14 1 8 15 . .", nil, 4},
		{"1+0:7 14 1 8 . . .", 2, "1+0:7 14 1 8 2 . .", nil, 3},
		{"1+0:7 14 1 8 . . .", 5, "1+0:7 14 1 8 . 5 .", nil, 1},
		{"1+0:7 14 1 8 . . .", 6, "1+0:7 14 1 8 . . 6", nil, 1},
		// Keys with the same home lie in ascending order.
		{"0+1:. 3 9 50 . .", 2, "0+1:. 2 3 9 50 .", []int{3, 9, 50}, 1},
		{"0+1:. 3 9 50 . .", 4, "0+1:. 3 4 9 50 .", []int{9, 50}, 2},
		{"0+1:. 3 9 50 . .", 51, "0+1:. 3 9 50 51 .", nil, 4},
		// Keys give way around the end of the ring, and where the key itself has come around.
		{"1+0:13 0 . . . . 6", 20, "1+0:13 20 0 . . . 6", []int{0}, 3},
		{"1+0:7 . . . . . 13", 6, "1+0:13 7 . . . . 6", []int{13, 7}, 1},
		{"1+0:13 0 1 . . . 6", 5, "1+0:13 0 1 . . 5 6", nil, 1},
		{"1+0:13 0 1 . . 5 6", 12, "1+0:6 13 0 1 . 5 12", []int{6, 13, 0, 1}, 2},
		{"1+0:0 1 . .", 7, "1+0:0 1 . 7", nil, 1},
		{"1+0:4 . . 3", 7, "1+0:7 4 . 3", []int{4}, 2},
		{"1+0:4 . . 7", 3, "1+0:7 4 . 3", []int{7, 4}, 1},
		{"1+0:. .", 99, "1+0:. 99", nil, 1},
		{"0+0:. .", 99, "0+0:99 .", nil, 1},
		// Keys that are found, and tables with one free slot, take none.
		{"1+0:7 14 1 8 . . .", 7, "", nil, 1},
		{"1+0:7 14 1 8 . . .", 14, "", nil, 2},
		{"1+0:7 14 1 8 . . .", 8, "", nil, 3},
		{"1+0:. 1 2", 0, "", nil, 1},
		{"1+0:. 1 2", 1, "", nil, 1},
		{"1+0:. 1 2", 4, "", nil, 2},
		{"1+0:. 1 2", 97, "", nil, 2},
		{"1+0:0 . 2", 3, "", nil, 2},
		{"0+0:3 5 .", 4, "", nil, 2},
		{"0+0:3 5 .", 6, "", nil, 3},
		{"0+0:.", 6, "", nil, 1},
	} {
		x, _ := impl.ParseTable(c.text)
		got, ok := impl.FairPut(x, c.key)
		if impl.FormatTable(got) != c.want || ok != (c.want != "") {
			t.Errorf("FairPut(%s, %d) = %v, %v", c.text, c.key, got, ok)
		}
		if swaps, ok := impl.SwapsBy(x, c.key); !slices.Equal(swaps, c.swaps) || ok != (c.want != "") {
			t.Errorf("SwapsBy(%s, %d) = %v, %v", c.text, c.key, swaps, ok)
		}
		if visits := impl.FairVisits(x, c.key); visits != c.visits {
			t.Errorf("FairVisits(%s, %d) = %d, not %d", c.text, c.key, visits, c.visits)
		}
	}
}

func TestFairDropExamples(t *testing.T) {
	for _, c := range []struct {
		text string
		key  int
		want string
	}{
		{"1+0:7 14 1 8 . . .", 7, "1+0:14 1 8 . . . ."},
		{"1+0:7 14 1 8 . . .", 14, "1+0:7 1 8 . . . ."},
		{"1+0:7 14 1 8 . . .", 1, "1+0:7 14 8 . . . ."},
		{"1+0:7 14 1 8 . . .", 8, "1+0:7 14 1 . . . ."},
		// A key at its home stays, and so do those behind it.
		{"1+0:7 14 2 9 . . .", 7, "1+0:14 . 2 9 . . ."},
		{"1+0:7 14 2 9 . . .", 14, "1+0:7 . 2 9 . . ."},
		{"1+0:7 14 2 9 . . .", 2, "1+0:7 14 9 . . . ."},
		{"1+0:7 14 2 3 . . .", 2, "1+0:7 14 . 3 . . ."},
		{"1+0:7 . 2 9 . . .", 7, "1+0:. . 2 9 . . ."},
		// Around the end of the ring.
		{"1+0:13 20 0 . . 5 6", 6, "1+0:20 0 . . . 5 13"},
		{"1+0:13 20 0 . . 5 6", 5, "1+0:13 20 0 . . . 6"},
		{"1+0:13 20 0 . . 5 6", 13, "1+0:20 0 . . . 5 6"},
		{"1+0:13 20 0 . . 5 6", 20, "1+0:13 0 . . . 5 6"},
		{"1+0:13 20 0 . . 5 6", 0, "1+0:13 20 . . . 5 6"},
		// Tables with one free slot.
		{"1+0:7 4 . 3", 3, "1+0:4 . . 7"},
		{"1+0:7 4 . 3", 7, "1+0:4 . . 3"},
		{"1+0:7 4 . 3", 4, "1+0:7 . . 3"},
		{"0+2:4 . 3", 3, "0+2:. . 4"},
		{"1+0:0 .", 0, "1+0:. ."},
		{"1+0:7 14 1 8 . . .", 50, ""},
		{"1+0:7 14 1 8 . . .", 0, ""},
		{"1+0:. .", 0, ""},
		{"0+0:.", 0, ""},
		{"1+0:7 8 14 . . . .", 7, ""},
		{"1+0:1 0", 1, ""},
	} {
		x, _ := impl.ParseTable(c.text)
		if got, ok := impl.FairDrop(x, c.key); impl.FormatTable(got) != c.want || ok != (c.want != "") {
			t.Errorf("FairDrop(%s, %d) = %v, %v", c.text, c.key, got, ok)
		}
	}
}

func TestFairOfExamples(t *testing.T) {
	for text, want := range map[string]string{
		"1+0:7 14 1 8 . . .":  "1+0:7 14 1 8 . . .",
		"1+0:14 7 . . . . .":  "1+0:7 14 . . . . .",
		"1+0:7 14 8 1 . . .":  "1+0:7 14 1 8 . . .",
		"1+0:0 13 . . . . 6":  "1+0:13 0 . . . . 6",
		"1+0:7 x 14 . 8 . x":  "1+0:7 14 8 . . . .",
		"1+0:20 13 6 . . . .": "1+0:13 20 . . . . 6",
		"1+0:. 0 . 7":         "1+0:0 . . 7",
		"1+0:1 x 0":           "1+0:0 1 .",
		"1+0:1 0 .":           "1+0:0 1 .",
		"1+0:x x":             "1+0:. .",
		"0+0:x":               "0+0:.",
		"0+0:.":               "0+0:.",
		"15+15:x 99":          "15+15:99 .",
		"1+0:1 0":             "",
		"1+0:0 1":             "",
		"0+0:5":               "",
		"1+1:0 1 2 3 4 5 6 7 8 9 10 11 12 13 14 15": "",
		"1+1:0 1 2 3 4 5 6 7 8 9 10 11 12 13 14 x":  "1+1:. 0 1 2 3 4 5 6 7 8 9 10 11 12 13 14",
	} {
		x, _ := impl.ParseTable(text)
		if got, ok := impl.FairOf(x); impl.FormatTable(got) != want || ok != (want != "") {
			t.Errorf("FairOf(%s) = %v, %v", text, got, ok)
		}
	}
}

// notFair are tables that would be fair but for one thing. They are plain, some without a free slot.
func notFair() map[string]impl.Table {
	return map[string]impl.Table{
		"the greater key ahead":                tableOf(1, 0, 14, 7, free, free, free, free, free),
		"the nearer key ahead":                 tableOf(1, 0, 7, 8, 14, free, free, free, free),
		"the greater key ahead, away":          tableOf(1, 0, 7, 14, 8, 1, free, free, free),
		"two of many keys":                     tableOf(1, 0, 0, 1, 2, 3, 4, 5, 6, 7, 8, 9, 10, 27, 11, 13, 14, free),
		"the greater key ahead around the end": tableOf(1, 0, 6, free, free, free, free, free, 13),
		"the nearer key ahead around the end":  tableOf(1, 0, 0, 13, free, free, free, free, 6),
		"a full ring":                          tableOf(1, 0, 0, 1),
		"a full ring, turned":                  tableOf(1, 0, 1, 2, 0),
		"one slot, full":                       tableOf(0, 0, 7),
	}
}

func TestIsFairExamples(t *testing.T) {
	for _, text := range []string{
		"0+0:.", "1+0:0 .", "1+0:. 1", "1+0:7 14 . 3 . . .", "1+0:7 14 1 8 . . .", "1+0:13 20 0 . . 5 6", "0+2:99 . 0 50", "1+0:7 4 . 3",
		"1+0:0 1 2 3 4 5 6 7 8 9 10 11 27 12 13 .",
	} {
		x, _ := impl.ParseTable(text)
		if !impl.IsFair(x) {
			t.Errorf("IsFair(%s) = false", text)
		}
	}
	for why, x := range notFair() {
		if !plain(x) || impl.IsFair(x) {
			t.Errorf("%s: %v is not plain, or it is fair", why, x)
		}
	}
}

func TestAwayInManyTables(t *testing.T) {
	for _, x := range poorTables() {
		most, total := 0, 0
		for _, key := range keysOf(x) {
			away := slices.Index(row(x, key), key)
			most, total = max(most, away), total+away
		}
		if got := impl.MostAway(x); got != most {
			t.Fatalf("MostAway(%v) = %d, not %d", x, got, most)
		}
		if got := impl.TotalAway(x); got != total {
			t.Fatalf("TotalAway(%v) = %d, not %d", x, got, total)
		}
	}
}

func TestAwayExamples(t *testing.T) {
	for _, c := range []struct {
		x           impl.Table
		most, total int
	}{
		{tableOf(1, 0, 7, 14, 1, 8, free, free, free), 2, 4},
		{tableOf(1, 0, 7, 14, 8, 3, free, free, free), 1, 2},
		// A table need be neither fair, plain nor sound for that.
		{tableOf(1, 0, 7, 14, free, 3, tomb, free, free), 1, 1},
		{tableOf(1, 0, free, 0, free, 6), 1, 2},
		{tableOf(1, 0, 6, 13, 5, free, tomb, tomb, 20), 4, 7},
		{tableOf(1, 0, 1, 2, 0), 2, 6},
		{tableOf(1, 0, 1, 2, 3, 4, 5, 6, 7, 8, 9, 10, 11, 12, 13, 14, 15, 0), 15, 240},
		{tableOf(15, 15, 99), 0, 0},
		{tableOf(0, 0, free), 0, 0},
		{tableOf(0, 0, tomb, tomb), 0, 0},
		{tableOf(1, 1, slotsWith(16)...), 0, 0},
	} {
		if most, total := impl.MostAway(c.x), impl.TotalAway(c.x); most != c.most || total != c.total {
			t.Errorf("in %v, MostAway = %d, TotalAway = %d", c.x, most, total)
		}
	}
	for why, x := range notValid() {
		if most, total := impl.MostAway(x), impl.TotalAway(x); most != -1 || total != -1 {
			t.Errorf("%s: MostAway = %d, TotalAway = %d", why, most, total)
		}
	}
}

// checkNotFair holds for a table or for keys that are refused.
func checkNotFair(t *testing.T, why string, x impl.Table, keys ...int) {
	t.Helper()
	if got, ok := impl.FairAll(x, keys); !isZero(got) || ok {
		t.Errorf("%s: FairAll(%.10v) = %v, %v", why, keys, got, ok)
	}
	if len(keys) != 1 {
		return
	}
	checkNoFairPut(t, x, keys[0])
	if got, ok := impl.FairDrop(x, keys[0]); !isZero(got) || ok {
		t.Errorf("%s: FairDrop(%d) = %v, %v", why, keys[0], got, ok)
	}
	if got := impl.FairVisits(x, keys[0]); got != -1 {
		t.Errorf("%s: FairVisits(%d) = %d", why, keys[0], got)
	}
}

func TestFairNoKeys(t *testing.T) {
	for _, x := range []impl.Table{tableOf(1, 0, 7, 14, 1, 8, free, free, free), tableOf(0, 0, free), tableOf(1, 0, slotsWith(16)...), tableOf(1, 0, free, 1, 2)} {
		if !impl.IsFair(x) {
			t.Errorf("%v is not fair", x)
		}
		for _, number := range noKeys {
			checkNotFair(t, "no key", x, number)
			checkNotFair(t, "no key", x, 1, number)
			checkNotFair(t, "no key", x, number, 99)
			checkNotFair(t, "no key", x, 14, number, 0)
		}
	}
}

func TestFairListsOfAllLengths(t *testing.T) {
	x := tableOf(1, 0, 7, 14, 1, 8, free, free, free)
	for length := 1; length <= 130; length++ {
		keys := slices.Repeat([]int{0}, length)
		if length > 100 {
			checkNotFair(t, "too many", x, keys...)
			continue
		}
		if got, ok := impl.FairAll(x, keys); !sameFields(got, tableOf(1, 0, 0, 7, 14, 1, 8, free, free)) || !ok {
			t.Errorf("FairAll of %d keys = %v, %v", length, got, ok)
		}
	}
	checkNotFair(t, "very many", x, make([]int, 1<<20)...)
	checkNotFair(t, "keys that are found", x, slices.Repeat([]int{14}, 101)...)
}

func TestFairnessOfNoFairTables(t *testing.T) {
	tables := notValid()
	for why, x := range tables {
		if got, ok := impl.FairOf(x); !isZero(got) || ok {
			t.Errorf("%s: FairOf = %v, %v", why, got, ok)
		}
	}
	for _, others := range []map[string]impl.Table{notSound(), withTombs(), notFair()} {
		for why, x := range others {
			tables[why] = x
		}
	}
	for why, x := range tables {
		if impl.IsFair(x) {
			t.Errorf("%s: IsFair = true", why)
		}
		checkNotFair(t, why, x)
		for _, key := range append([]int{0, 1, 3, 5, 6, 7, 14, 16, 50, 99}, noKeys...) {
			checkNotFair(t, why, x, key)
		}
		checkNotFair(t, why, x, 7, 0)
		checkNotFair(t, why, x, math.MaxInt, 7)
		checkNotFair(t, why, x, make([]int, 101)...)
	}
}

// callPoor calls every function of the chapter.
func callPoor(x impl.Table) {
	for n := -3; n <= 101; n++ {
		impl.FairPut(x, n)
		impl.SwapsBy(x, n)
		impl.FairDrop(x, n)
		impl.FairVisits(x, n)
	}
	for _, keys := range dropLists {
		impl.FairAll(x, keys)
	}
	impl.IsFair(x)
	impl.FairOf(x)
	impl.MostAway(x)
	impl.TotalAway(x)
}

func TestTablesStayInFairness(t *testing.T) {
	checkStay(t, callPoor)
	// Here keys give way, or lie nearer to their homes.
	for _, slots := range [][]int{{7, 14, 1, 8, free, free, free}, {13, 20, 0, free, free, 5, 6}, {7, 8, 14, free, free, free, free}} {
		memory := append(slices.Clone(slots), 77, 78)
		before := slices.Clone(memory)
		callPoor(tableOf(1, 0, memory[:len(slots)]...))
		if !slices.Equal(memory, before) {
			t.Errorf("the slots became %v", memory)
		}
	}
}

func TestListsStayInFairness(t *testing.T) {
	memory := []int{14, 7, 14, 0, 98, 99}
	before := slices.Clone(memory)
	impl.FairAll(tableOf(1, 0, slotsWith(7)...), memory[:4])
	if !slices.Equal(memory, before) {
		t.Errorf("the keys became %v", memory)
	}
}

func TestFairResultsShareNothing(t *testing.T) {
	memory := append(slotsWith(7, 7, 14, 1, 8), 97, 98, 99)
	before := slices.Clone(memory)
	x := tableOf(1, 0, memory[:7]...)
	one, _ := impl.FairPut(x, 0)
	two, _ := impl.FairDrop(x, 7)
	three, _ := impl.FairAll(x, []int{0, 5})
	four, _ := impl.FairDrop(x, 8)
	// Nothing changes in these, but each table is one of its own all the same.
	five, _ := impl.FairAll(x, nil)
	six, _ := impl.FairAll(x, []int{14})
	seven, _ := impl.FairOf(x)
	checkApart(t, one, two, three, four, five, six, seven)
	swaps, _ := impl.SwapsBy(x, 0)
	spoil(swaps)
	if got, _ := impl.SwapsBy(x, 0); !slices.Equal(got, []int{7, 14, 1, 8}) {
		t.Errorf("SwapsBy = %v", got)
	}
	if !slices.Equal(memory, before) {
		t.Errorf("the slots became %v", memory)
	}
}
