package tests

import (
	"math"
	"slices"
	"strings"
	"testing"

	"loop.example/opentables/impl"
)

// factorials are the numbers of orders of so many keys.
var factorials = []int{1, 1, 2, 6, 24, 120}

// A turnout is what all orders of some keys make: the texts, in the order of the first orders that make them, and how many orders make each. Where an order is refused, it has no counts.
type turnout struct {
	texts  []string
	counts map[string]int
}

// turnoutOf tries all orders by a function that returns a text, or none where there is no room.
func turnoutOf(keys []int, fill func(order []int) string) turnout {
	made := turnout{counts: map[string]int{}}
	for _, order := range ordersOf(keysOnce(keys)) {
		text := fill(order)
		if text == "" {
			return turnout{}
		}
		if made.counts[text] == 0 {
			made.texts = append(made.texts, text)
		}
		made.counts[text]++
	}
	return made
}

func (made turnout) whole() bool {
	return made.counts != nil
}

// A survey counts turnouts, so that a test can tell that it has seen all kinds of them.
type survey struct {
	one, many, refused int
}

func (s *survey) add(made turnout) {
	switch {
	case !made.whole():
		s.refused++
	case len(made.texts) == 1:
		s.one++
	default:
		s.many++
	}
}

func (s survey) check(t *testing.T, least survey) {
	t.Helper()
	if s.one < least.one || s.many < least.many || s.refused < least.refused {
		t.Errorf("the survey is only %+v, not %+v", s, least)
	}
}

// putIn puts keys in one order, and returns the zero value if the table is not sound or a key has no place.
func putIn(x impl.Table, order []int) impl.Table {
	made, whole := wayOf(x, order)
	if !whole || !sound(x) {
		return impl.Table{}
	}
	if len(order) == 0 {
		return x
	}
	return made.tables[len(order)-1]
}

// takenIn returns the slots that hold a key and did not.
func takenIn(before impl.Table, after impl.Table) []int {
	var taken []int
	for slot, holds := range after.Slots {
		if holds >= 0 && before.Slots[slot] < 0 {
			taken = append(taken, slot)
		}
	}
	return taken
}

// checkTexts compares texts with those of a turnout.
func checkTexts(t *testing.T, name string, got []string, ok bool, want turnout) {
	t.Helper()
	if !slices.Equal(got, want.texts) || ok != want.whole() {
		t.Fatalf("%s = %q, %v, not %q", name, got, ok, want.texts)
	}
}

// checkTables compares what the functions for tables return with a turnout.
func checkTables(t *testing.T, x impl.Table, keys []int, want turnout) {
	t.Helper()
	got, ok := impl.TablesBy(x, keys)
	checkTexts(t, "TablesBy", got, ok, want)
	for text, count := range want.counts {
		y, _ := impl.ParseTable(text)
		if got := impl.OrdersTo(x, keys, y); got != count {
			t.Fatalf("OrdersTo(%v, %v, %s) = %d, not %d", x, keys, text, got, count)
		}
	}
	// No order makes a table without slots, or with one slot more.
	for _, y := range []impl.Table{{}, tableOf(x.Times, x.Plus, append(slices.Clone(x.Slots), tomb)...)} {
		none := 0
		if !want.whole() {
			none = -1
		}
		if got := impl.OrdersTo(x, keys, y); got != none {
			t.Fatalf("OrdersTo(%v, %v, %v) = %d, not %d", x, keys, y, got, none)
		}
	}
}

func checkTaken(t *testing.T, x impl.Table, keys []int, want []int, whole bool) {
	t.Helper()
	if got, ok := impl.TakenBy(x, keys); !slices.Equal(got, want) || ok != whole {
		t.Fatalf("TakenBy(%v, %v) = %v, %v, not %v, %v", x, keys, got, ok, want, whole)
	}
}

// checkOrdersIn holds a valid table and a list of not too many keys against the definitions.
func checkOrdersIn(t *testing.T, x impl.Table, keys []int) turnout {
	t.Helper()
	want := turnoutOf(keys, func(order []int) string { return impl.FormatTable(putIn(x, order)) })
	checkTables(t, x, keys, want)
	filled := putIn(x, keys)
	checkTaken(t, x, keys, takenIn(x, filled), want.whole())
	return want
}

// checkFairTables looks for the fair table of all keys: there is one at most.
func checkFairTables(t *testing.T, x impl.Table, keys []int) turnout {
	t.Helper()
	all, room := fairAllOf(x, keys)
	if !fair(x) || !room {
		checkNoFairTables(t, x, keys)
		return turnout{}
	}
	got, ok := impl.FairTables(x, keys)
	y, _ := impl.ParseTable(strings.Join(got, " "))
	if len(got) != 1 || !ok || !alike(y, x, all) {
		t.Fatalf("FairTables(%v, %v) = %q, %v", x, keys, got, ok)
	}
	return turnout{texts: got, counts: map[string]int{}}
}

func checkNestsBy(t *testing.T, n impl.Nest, keys []int) turnout {
	t.Helper()
	want := turnoutOf(keys, func(order []int) string { return nestText(pushedAll(n, order)) })
	got, ok := impl.NestsBy(n, keys)
	checkTexts(t, "NestsBy", got, ok, want)
	return want
}

// checkNoOrders holds for a table or for keys that all functions but TakenBy refuse.
func checkNoOrders(t *testing.T, x impl.Table, keys []int) {
	t.Helper()
	checkTables(t, x, keys, turnout{})
	checkNoFairTables(t, x, keys)
}

func checkNoFairTables(t *testing.T, x impl.Table, keys []int) {
	t.Helper()
	got, ok := impl.FairTables(x, keys)
	checkTexts(t, "FairTables", got, ok, turnout{})
}

func checkNoNests(t *testing.T, n impl.Nest, keys []int) {
	t.Helper()
	got, ok := impl.NestsBy(n, keys)
	checkTexts(t, "NestsBy", got, ok, turnout{})
}

func TestMaxOrdered(t *testing.T) {
	if impl.MaxOrdered != 5 {
		t.Errorf("MaxOrdered = %d", impl.MaxOrdered)
	}
}

// orderLists are lists with keys that the small tables hold, keys that they do not, and keys that stand twice.
var orderLists = [][]int{nil, {4}, {4, 4}, {7, 0}, {5, 6, 7}, {98, 5, 6, 5}, {11, 8, 2, 99}, {3, 2, 1, 2, 3}}

// TestOrdersInSmallTables goes through all small tables, sound or not.
func TestOrdersInSmallTables(t *testing.T) {
	var seen survey
	for size := 1; size <= 3; size++ {
		for _, rule := range [][2]int{{0, 0}, {0, 3}, {1, 0}, {1, 1}, {3, 2}, {15, 15}} {
			for _, x := range smallTables(size, rule[0], rule[1], 0, 4, 5, 7, 99) {
				for _, keys := range orderLists {
					seen.add(checkOrdersIn(t, x, keys))
					checkFairTables(t, x, keys)
				}
			}
		}
	}
	seen.check(t, survey{one: 500, many: 300, refused: 500})
}

// fewOf returns so many different keys, of which some come home together.
func fewOf(count int, turn int) []int {
	var keys []int
	for i := range count {
		keys = append(keys, (i*i*32+i*16+turn*5)%100)
	}
	return keys
}

// TestOrdersInLargeTables goes through tables of all sizes, with tombs or without, that have room or get full.
func TestOrdersInLargeTables(t *testing.T) {
	var seen survey
	most := 0
	for turn, x := range slices.Concat(largeTables(), filledTables()) {
		if turn%5 != 0 {
			continue
		}
		keys := fewOf(turn/5%6, turn)
		made := checkOrdersIn(t, x, keys)
		if len(keys) > 2 {
			checkTables(t, x, append(keys[2:], keys...), made)
		}
		seen.add(made)
		most = max(most, len(made.texts))
	}
	seen.check(t, survey{one: 50, many: 50, refused: 80})
	if most != 120 {
		t.Errorf("%d tables were made at most", most)
	}
}

// TestFairTablesInLargeTables goes through fair tables of all sizes up to the last free slot.
func TestFairTablesInLargeTables(t *testing.T) {
	var seen survey
	for turn, x := range fairTables() {
		if turn%5 == 0 {
			seen.add(checkFairTables(t, x, fewOf(turn/5%6, turn)))
		}
	}
	seen.check(t, survey{one: 150, refused: 80})
}

// TestNestsInAllOrders goes through nests of all sizes, into which a key has been pushed or none.
func TestNestsInAllOrders(t *testing.T) {
	var seen survey
	for turn, n := range emptyNests() {
		for _, n := range []impl.Nest{n, pushedAll(n, []int{turn % 100})} {
			seen.add(checkNestsBy(t, n, fewOf(turn%6, turn)))
		}
	}
	seen.check(t, survey{one: 300, many: 100, refused: 200})
}

// TestSameSlotsInAnyOrder holds the promise itself: whatever the order, the same slots are taken, the keys of the table stay, and each order makes one of the tables.
func TestSameSlotsInAnyOrder(t *testing.T) {
	tried := 0
	for turn, x := range slices.Concat(largeTables(), manyTables()) {
		if turn%7 != 0 {
			continue
		}
		keys := fewOf(turn/7%5+1, turn)
		texts, ok := impl.TablesBy(x, keys)
		if !ok {
			continue
		}
		tried++
		want, _ := impl.TakenBy(x, keys)
		for _, order := range ordersOf(keysOnce(keys)) {
			checkTaken(t, x, order, want, true)
		}
		orders := 0
		for _, text := range texts {
			y, _ := impl.ParseTable(text)
			if got := takenIn(x, y); !slices.Equal(got, want) || !keeps(x, y) {
				t.Fatalf("%v in some order put into %v make %s, where %v are taken, not %v", keys, x, text, got, want)
			}
			orders += impl.OrdersTo(x, keys, y)
		}
		if want := factorials[len(keysOnce(keys))]; orders != want {
			t.Fatalf("%d orders of %v make %q, not %d", orders, keys, texts, want)
		}
	}
	if tried < 200 {
		t.Errorf("%d lists were tried", tried)
	}
}

func TestOrderedTablesExamples(t *testing.T) {
	for _, c := range []struct {
		text   string
		keys   []int
		tables []string
		counts []int
		taken  []int
	}{
		{"1+0:. . . . . . .", []int{0, 7, 1}, []string{"1+0:0 1 7 . . . .", "1+0:0 7 1 . . . .", "1+0:7 1 0 . . . .", "1+0:7 0 1 . . . ."}, []int{2, 1, 2, 1}, []int{0, 1, 2}},
		// However the list is ordered, and how often a key stands in it.
		{"1+0:. . . . . . .", []int{7, 1, 0, 1, 7, 7}, []string{"1+0:0 1 7 . . . .", "1+0:0 7 1 . . . .", "1+0:7 1 0 . . . .", "1+0:7 0 1 . . . ."}, []int{2, 1, 2, 1}, []int{0, 1, 2}},
		{"1+0:. . . . . . .", []int{13, 6}, []string{"1+0:13 . . . . . 6", "1+0:6 . . . . . 13"}, []int{1, 1}, []int{0, 6}},
		{"1+0:. . . . . . .", []int{5, 5}, []string{"1+0:. . . . . 5 ."}, []int{1}, []int{5}},
		// Keys without a slot in common come into the same ones in all orders.
		{"1+0:. . . . . . .", []int{6, 1, 2, 5, 4}, []string{"1+0:. 1 2 . 4 5 6"}, []int{120}, []int{1, 2, 4, 5, 6}},
		{"1+0:. . . . . . .", nil, []string{"1+0:. . . . . . ."}, []int{1}, nil},
		{"1+0:7 14 . 3 x . .", nil, []string{"1+0:7 14 . 3 x . ."}, []int{1}, nil},
		// Keys that the table has stand in the orders too.
		{"1+0:7 14 . 3 x . .", []int{3, 14, 7}, []string{"1+0:7 14 . 3 x . ."}, []int{6}, nil},
		{"1+0:7 14 . 3 x . .", []int{7, 0, 1}, []string{"1+0:7 14 0 3 1 . .", "1+0:7 14 1 3 0 . ."}, []int{3, 3}, []int{2, 4}},
		// Tombs are taken, each one once.
		{"1+0:x x 2", []int{2, 5, 8}, []string{"1+0:5 8 2", "1+0:8 5 2"}, []int{3, 3}, []int{0, 1}},
		{"0+1:x x", []int{9, 8}, []string{"0+1:9 8", "0+1:8 9"}, []int{1, 1}, []int{0, 1}},
		{"1+0:7 x 8 3 x . .", []int{15, 10}, []string{"1+0:7 15 8 3 10 . ."}, []int{2}, []int{1, 4}},
		// Tables get full, and are.
		{"1+0:. . .", []int{0, 1, 3}, []string{"1+0:0 1 3", "1+0:0 3 1", "1+0:3 1 0", "1+0:3 0 1"}, []int{2, 1, 2, 1}, []int{0, 1, 2}},
		{"1+0:. 4 2", []int{1}, []string{"1+0:1 4 2"}, []int{1}, []int{0}},
		{"1+0:1 2 0", []int{0, 1, 2}, []string{"1+0:1 2 0"}, []int{6}, nil},
		{"0+0:.", []int{99}, []string{"0+0:99"}, []int{1}, []int{0}},
		{"0+0:x", []int{0, 0}, []string{"0+0:0"}, []int{1}, []int{0}},
		{"0+0:50", []int{50}, []string{"0+0:50"}, []int{1}, nil},
	} {
		x, _ := impl.ParseTable(c.text)
		want := turnout{texts: c.tables, counts: map[string]int{}}
		for i, text := range c.tables {
			want.counts[text] = c.counts[i]
		}
		checkTables(t, x, c.keys, want)
		checkTaken(t, x, c.keys, c.taken, true)
		checkOrdersIn(t, x, c.keys)
	}
}

// TestOrdersWithoutAPlace refuses lists with a key too many, wherever it stands.
func TestOrdersWithoutAPlace(t *testing.T) {
	for text, lists := range map[string][][]int{
		"1+0:1 2 0": {{3}, {0, 3}, {3, 0, 1}, {99, 2, 1, 0}},
		"1+0:0 x 2": {{1, 5}, {5, 1}, {0, 1, 2, 5}, {5, 5, 1}},
		"1+0:. . .": {{0, 1, 2, 3}, {3, 2, 1, 0}, {3, 6, 9, 12, 15}},
		"1+0:. .":   {{0, 1, 2}},
		"0+0:.":     {{0, 1}, {98, 99, 98}},
		"0+0:50":    {{51}, {50, 51}},
	} {
		x, _ := impl.ParseTable(text)
		for _, keys := range lists {
			checkNoOrders(t, x, keys)
			checkTaken(t, x, keys, nil, false)
		}
	}
}

// TestOrdersToOthers looks for tables that no order makes, valid or not, among them some that are nearly made.
func TestOrdersToOthers(t *testing.T) {
	x := tableOf(1, 0, slotsWith(7)...)
	keys := []int{0, 7, 1}
	for why, want := range map[string]impl.Table{
		"the table itself":      x,
		"a key out of order":    tableOf(1, 0, slotsWith(7, 1, 0, 7)...),
		"a key less":            tableOf(1, 0, slotsWith(7, 0, 1)...),
		"a key more":            tableOf(1, 0, slotsWith(7, 0, 1, 7, 3)...),
		"another key":           tableOf(1, 0, slotsWith(7, 0, 1, 14)...),
		"a tomb":                tableOf(1, 0, slotsWith(7, 0, 1, 7, tomb)...),
		"other Times":           tableOf(2, 0, slotsWith(7, 0, 1, 7)...),
		"another Plus":          tableOf(1, 1, slotsWith(7, 0, 1, 7)...),
		"a slot more":           tableOf(1, 0, slotsWith(8, 0, 1, 7)...),
		"a slot less":           tableOf(1, 0, slotsWith(6, 0, 1, 7)...),
		"a slot with a zero":    tableOf(1, 0, append(slotsWith(7, 0, 1, 7), 0)...),
		"many slots":            tableOf(1, 0, slotsWith(100000, 0, 1, 7)...),
		"a key twice":           tableOf(1, 0, slotsWith(7, 0, 1, 7, 7)...),
		"a number for the tomb": tableOf(1, 0, slotsWith(7, 0, 1, 7, -3)...),
	} {
		if got := impl.OrdersTo(x, keys, want); got != 0 {
			t.Errorf("%s: OrdersTo = %d", why, got)
		}
		if got := impl.OrdersTo(x, append(keys, 100), want); got != -1 {
			t.Errorf("%s: OrdersTo for a number that is no key = %d", why, got)
		}
	}
	for why, want := range notValid() {
		if got := impl.OrdersTo(x, keys, want); got != 0 {
			t.Errorf("%s: OrdersTo = %d", why, got)
		}
		if got := impl.OrdersTo(want, keys, want); got != -1 {
			t.Errorf("%s: OrdersTo from there = %d", why, got)
		}
		if got := impl.OrdersTo(want, nil, want); got != -1 {
			t.Errorf("%s: OrdersTo from there, without keys = %d", why, got)
		}
	}
	for why, want := range notSound() {
		if got := impl.OrdersTo(want, nil, want); got != -1 {
			t.Errorf("%s: OrdersTo from there, without keys = %d", why, got)
		}
	}
}

func TestFairTablesExamples(t *testing.T) {
	for _, c := range []struct {
		text string
		keys []int
		want string
	}{
		{"1+0:. . . . . . .", []int{0, 7, 1}, "1+0:0 7 1 . . . ."},
		{"1+0:. . . . . . .", []int{14, 7, 8, 1}, "1+0:7 14 1 8 . . ."},
		{"1+0:. . . . . . .", []int{8, 1, 14, 7, 1, 8}, "1+0:7 14 1 8 . . ."},
		{"1+0:. . . . . . .", []int{20, 13, 6, 5, 0}, "1+0:13 20 0 . . 5 6"},
		{"1+0:7 14 1 8 . . .", []int{21, 2}, "1+0:7 14 21 1 8 2 ."},
		{"1+0:7 14 1 8 . . .", []int{14, 8, 7}, "1+0:7 14 1 8 . . ."},
		{"1+0:7 14 1 8 . . .", nil, "1+0:7 14 1 8 . . ."},
		{"0+0:.", nil, "0+0:."},
		// One slot stays free, which a table may have already if it has all the keys.
		{"1+0:. . .", []int{3, 0}, "1+0:0 3 ."},
		{"1+0:. . .", []int{3, 0, 1}, ""},
		{"1+0:0 . 2", []int{2, 0}, "1+0:0 . 2"},
		{"1+0:0 . 2", []int{1}, ""},
		{"1+0:0 . 2", []int{0, 1}, ""},
		{"0+0:.", []int{5}, ""},
	} {
		x, _ := impl.ParseTable(c.text)
		want := turnout{}
		if c.want != "" {
			want = turnout{texts: []string{c.want}, counts: map[string]int{}}
		}
		got, ok := impl.FairTables(x, c.keys)
		checkTexts(t, "FairTables", got, ok, want)
	}
}

func TestOrderedNestsExamples(t *testing.T) {
	for _, c := range []struct {
		more, again int
		text        string
		keys        []int
		want        []string
	}{
		{2, 1, "1+0:. . . . . . .", []int{12, 5, 5}, []string{"2+1/1+0:. . . . 5 12 .", "2+1/1+0:. . . . 12 5 ."}},
		{2, 1, "1+0:. . . . . . .", []int{5, 12, 0}, []string{"2+1/1+0:0 . . . 5 12 .", "2+1/1+0:0 . . . 12 5 ."}},
		{2, 1, "1+0:. . . . . . .", nil, []string{"2+1/1+0:. . . . . . ."}},
		{2, 1, "1+0:0 . . . 5 12 .", nil, []string{"2+1/1+0:0 . . . 5 12 ."}},
		{2, 1, "1+0:0 . . . 5 12 .", []int{12, 0}, []string{"2+1/1+0:0 . . . 5 12 ."}},
		{2, 1, "1+0:0 . . . 5 12 .", []int{7, 3}, []string{"2+1/1+0:7 0 . 3 5 12 ."}},
		{1, 1, "1+0:. . .", []int{0, 1, 2}, []string{"1+1/1+0:0 1 2"}},
		{1, 1, "1+0:. . .", []int{0, 3, 1}, []string{"1+1/1+0:3 0 1", "1+1/1+0:0 3 1"}},
		{15, 15, "0+0:.", []int{99, 99}, []string{"15+15/0+0:99"}},
		// There is no room for all keys.
		{2, 1, "1+0:. . . . . . .", []int{5, 12, 19}, nil},
		{2, 1, "1+0:0 . . . 5 12 .", []int{1, 19}, nil},
		{1, 1, "1+0:0 1 2", []int{3}, nil},
		{15, 15, "0+0:.", []int{99, 0}, nil},
	} {
		n := nestBy(c.more, c.again, c.text)
		made := checkNestsBy(t, n, c.keys)
		if !slices.Equal(made.texts, c.want) {
			t.Errorf("%v put into %v in all orders make %q, not %q", c.keys, n, made.texts, c.want)
		}
	}
}

// TestOrdersOfManyKeys counts around MaxOrdered different keys. TakenBy is for more of them too.
func TestOrdersOfManyKeys(t *testing.T) {
	x := tableOf(1, 0, slotsWith(16)...)
	n := nestIn(x, 1, 1)
	for count := range 17 {
		keys := keysUpTo(count)
		slots := slotsWith(16, keys...)
		for _, list := range [][]int{keys, slices.Concat(keys, keys, keys)} {
			checkTaken(t, x, list, keys, true)
			if count > 5 {
				checkNoOrders(t, x, list)
				checkNoNests(t, n, list)
				// Not even for keys that they have already.
				checkNoOrders(t, tableOf(1, 0, slots...), list)
				checkNoNests(t, nestIn(tableOf(1, 0, slots...), 1, 1), list)
				continue
			}
			text := impl.FormatTable(tableOf(1, 0, slots...))
			checkTables(t, x, list, turnout{texts: []string{text}, counts: map[string]int{text: factorials[count]}})
			checkFairTables(t, x, list)
			checkNestsBy(t, n, list)
		}
	}
}

func TestOrdersOfListsOfAllLengths(t *testing.T) {
	x := tableOf(1, 0, slotsWith(7, 7, 14)...)
	n := nestBy(2, 1, "1+0:0 . . . 5 12 .")
	for length := range 130 {
		keys := slices.Repeat([]int{5, 0, 12, 14, 3}, length/5+1)[:length]
		if length > 100 {
			checkNoOrders(t, x, keys)
			checkTaken(t, x, keys, nil, false)
			checkNoNests(t, n, keys)
			continue
		}
		checkOrdersIn(t, x, keys)
		checkFairTables(t, x, keys)
		checkNestsBy(t, n, keys)
	}
	// One key alone, or none that is new, makes no difference.
	for _, keys := range [][]int{make([]int, 1<<20), slices.Repeat([]int{14}, 101)} {
		checkNoOrders(t, x, keys)
		checkTaken(t, x, keys, nil, false)
		checkNoNests(t, nestBy(0, 0, "0+0:."), keys)
	}
}

func TestOrdersOfNoKeys(t *testing.T) {
	for _, number := range noKeys {
		for _, keys := range [][]int{{number}, {number, 5}, {5, number}, {5, number, 12}, {number, number}, append(keysUpTo(4), number), append(slices.Repeat([]int{14}, 99), number)} {
			for _, x := range []impl.Table{tableOf(1, 0, slotsWith(16)...), tableOf(1, 0, 7, 14, free, 3, tomb, free, free), tableOf(1, 0, 1, 2, 0)} {
				checkNoOrders(t, x, keys)
				checkTaken(t, x, keys, nil, false)
			}
			for _, n := range textedNests() {
				checkNoNests(t, n, keys)
			}
		}
	}
}

func TestOrdersInNoTables(t *testing.T) {
	lists := slices.Concat(orderLists, [][]int{{0, 1, 2, 3, 4, 5}, {math.MaxInt, 7}, make([]int, 101)})
	for _, tables := range []map[string]impl.Table{notValid(), notSound()} {
		for _, x := range tables {
			for _, keys := range lists {
				checkNoOrders(t, x, keys)
				checkTaken(t, x, keys, nil, false)
			}
		}
	}
	for _, tables := range []map[string]impl.Table{withTombs(), notFair()} {
		for _, x := range tables {
			for _, keys := range lists {
				checkNoFairTables(t, x, keys)
			}
		}
	}
	for _, n := range notNests() {
		for _, keys := range lists {
			checkNoNests(t, n, keys)
		}
	}
	for _, x := range notValid() {
		for _, keys := range lists {
			checkNoNests(t, nestIn(x, 2, 1), keys)
			checkNoNests(t, nestIn(tableOf(1, 0, x.Slots...), x.Times, x.Plus), keys)
		}
	}
}

// callOrders calls every function of the chapter.
func callOrders(x impl.Table, n impl.Nest, keys []int) {
	impl.TablesBy(x, keys)
	impl.OrdersTo(x, keys, x)
	impl.FairTables(x, keys)
	impl.TakenBy(x, keys)
	impl.NestsBy(n, keys)
}

func TestTablesStayInOrders(t *testing.T) {
	checkNestsStay(t, func(n impl.Nest) {
		for _, keys := range orderLists {
			callOrders(firstOf(n), n, keys)
		}
	})
	// Here the table that is wanted is one that is made.
	memory := append(slotsWith(7, 0, 1, 7), 77, 78)
	before := slices.Clone(memory)
	if got := impl.OrdersTo(tableOf(1, 0, slotsWith(7)...), []int{0, 7, 1}, tableOf(1, 0, memory[:7]...)); got != 2 {
		t.Errorf("OrdersTo = %d", got)
	}
	if !slices.Equal(memory, before) {
		t.Errorf("the slots that are wanted became %v", memory)
	}
}

func TestListsStayInOrders(t *testing.T) {
	memory := []int{12, 5, 12, 0, 98, 99}
	before := slices.Clone(memory)
	callOrders(tableOf(1, 0, slotsWith(7)...), nestBy(2, 1, "1+0:. . . . . . ."), memory[:4])
	if !slices.Equal(memory, before) {
		t.Errorf("the keys became %v", memory)
	}
}

func TestOrderResultsShareNothing(t *testing.T) {
	x := tableOf(1, 0, slotsWith(7)...)
	n := nestIn(x, 2, 1)
	keys := []int{5, 12, 0}
	take := func() [][]string {
		tables, _ := impl.TablesBy(x, keys)
		fairs, _ := impl.FairTables(x, keys)
		nests, _ := impl.NestsBy(n, keys)
		return [][]string{tables, fairs, nests}
	}
	one, two := take(), take()
	for i, list := range one {
		for text := range list {
			list[text] = "spoiled"
		}
		if slices.Contains(two[i], "spoiled") || !slices.Equal(two[i], take()[i]) || len(list) == 0 {
			t.Errorf("the texts became %q", two[i])
		}
	}
	taken, _ := impl.TakenBy(x, keys)
	again, _ := impl.TakenBy(x, keys)
	spoil(taken)
	if !slices.Equal(again, []int{0, 5, 6}) || !slices.Equal(keys, []int{5, 12, 0}) {
		t.Errorf("the slots that are taken became %v, the keys %v", again, keys)
	}
}

func TestOrdersLeaveNoGoroutines(t *testing.T) {
	x := tableOf(1, 0, slotsWith(7)...)
	checkGoroutinesEnd(t, func() {
		callOrders(x, nestIn(x, 2, 1), []int{0, 7, 1, 8})
		callOrders(tableOf(1, 0, 0, free), nestBy(0, 0, "0+0:."), []int{0, 7, 1, 8})
	})
}
