package tests

import (
	"slices"
	"testing"

	"loop.example/opentables/impl"
)

// A bill is what all functions of the chapter return for a table. Its misses are those of MissAt and FairMiss for each home.
type bill struct {
	hits, all, worst   int
	misses, fairMisses []int
}

func (b bill) same(other bill) bool {
	return b.hits == other.hits && b.all == other.all && b.worst == other.worst &&
		slices.Equal(b.misses, other.misses) && slices.Equal(b.fairMisses, other.fairMisses)
}

// billOf asks the functions.
func billOf(x impl.Table) bill {
	got := bill{hits: impl.HitVisits(x), all: impl.MissVisits(x), worst: impl.WorstMiss(x)}
	for home := range x.Slots {
		got.misses = append(got.misses, impl.MissAt(x, home))
		got.fairMisses = append(got.fairMisses, impl.FairMiss(x, home))
	}
	return got
}

// lineFrom returns the slots from one on, laid in a line.
func lineFrom(x impl.Table, slot int) []int {
	return append(slices.Clone(x.Slots[slot:]), x.Slots[:slot]...)
}

// hitsBy adds up the rows of all keys, as far as they are visited.
func hitsBy(x impl.Table) int {
	if !sound(x) {
		return -1
	}
	hits := 0
	for _, key := range keysOf(x) {
		hits += len(visited(x, key))
	}
	return hits
}

func missBy(x impl.Table, home int) int {
	line := lineFrom(x, home)
	if last := slices.Index(line, free); last >= 0 {
		return last + 1
	}
	return len(line)
}

// fairMissBy is for fair tables.
func fairMissBy(x impl.Table, home int) int {
	return 1 + slices.IndexFunc(lineFrom(x, home), func(here int) bool {
		return here < 0 || slices.Index(row(x, here), here) < slices.Index(lineFrom(x, home), here)
	})
}

// billBy holds for valid tables, by the definitions.
func billBy(x impl.Table) bill {
	want := bill{hits: hitsBy(x)}
	whole := fair(x)
	for home := range x.Slots {
		miss, fairMiss := missBy(x, home), -1
		if whole {
			fairMiss = fairMissBy(x, home)
		}
		want.all += miss
		want.misses = append(want.misses, miss)
		want.fairMisses = append(want.fairMisses, fairMiss)
	}
	want.worst = slices.Index(want.misses, slices.Max(want.misses))
	return want
}

func checkBill(t *testing.T, x impl.Table, want bill) {
	t.Helper()
	if got := billOf(x); !got.same(want) {
		t.Fatalf("the bill of %v is %+v, not %+v", x, got, want)
	}
}

// TestCostsInManyTables goes through all small tables and tables of all sizes, sound, fair and full ones and others.
func TestCostsInManyTables(t *testing.T) {
	lost, full, fairs, late := 0, 0, 0, 0
	for _, x := range append(poorTables(), fairTables()...) {
		want := billBy(x)
		checkBill(t, x, want)
		if want.hits < 0 {
			lost++
		}
		if freeSlots(x) == 0 {
			full++
		}
		if want.fairMisses[0] > 0 {
			fairs++
		}
		if want.worst > 0 {
			late++
		}
	}
	if least := min(lost, full, fairs, late); least < 500 {
		t.Errorf("of the tables, %d are not sound, %d have no free slot, %d are fair, and %d have a worst home behind the first one", lost, full, fairs, late)
	}
}

// TestMissesAreThoseOfKeys looks for all keys that are in no slot: MissAt and FairMiss tell of them by their homes.
func TestMissesAreThoseOfKeys(t *testing.T) {
	greater := 0
	for _, x := range append(largeTables(), fairTables()...) {
		whole := fair(x)
		for key := range 100 {
			if slices.Contains(x.Slots, key) {
				continue
			}
			home := impl.HomeOf(x, key)
			if got, want := impl.MissAt(x, home), impl.VisitsFor(x, key); got != want {
				t.Fatalf("MissAt(%v, %d) = %d, and %d are visited for %d", x, home, got, want, key)
			}
			ahead := func(other int) bool { return other > key && impl.HomeOf(x, other) == home }
			if !whole || slices.ContainsFunc(x.Slots, ahead) {
				continue
			}
			greater++
			if got, want := impl.FairMiss(x, home), impl.FairVisits(x, key); got != want || got > impl.MissAt(x, home) {
				t.Fatalf("FairMiss(%v, %d) = %d, and %d are visited for %d", x, home, got, want, key)
			}
		}
	}
	if greater < 10000 {
		t.Errorf("only %d keys are greater than all with the same home", greater)
	}
}

// newTo returns the keys of a list that no slot holds, each once.
func newTo(x impl.Table, keys []int) []int {
	return slices.DeleteFunc(keysOnce(keys), func(key int) bool { return slices.Contains(x.Slots, key) })
}

// checkAnyOrder puts keys in all orders, and compares the bills of what they make. It reports whether there is room for them.
func checkAnyOrder(t *testing.T, x impl.Table, keys []int) bool {
	t.Helper()
	first, ok := impl.PutAll(x, keys)
	if !ok {
		return false
	}
	want := billOf(first)
	for _, order := range ordersOf(keys) {
		made, _ := impl.PutAll(x, order)
		got := billOf(made)
		// Which of the tables is fair does depend on the order.
		got.fairMisses = want.fairMisses
		if !got.same(want) {
			t.Fatalf("%v put into %v cost %+v, and %v cost %+v", order, x, got, keys, want)
		}
		if visits := impl.PutsVisits(x, order); plain(x) && visits != want.hits-impl.HitVisits(x) {
			t.Fatalf("%d slots are visited to put %v into %v, which then costs %+v", visits, order, x, want)
		}
	}
	return true
}

// TestAsMuchIsVisitedInAnyOrder holds the promise itself.
func TestAsMuchIsVisitedInAnyOrder(t *testing.T) {
	room, last := 0, 0
	for turn, x := range slices.Concat(largeTables(), filledTables(), manyTables()) {
		keys := newTo(x, fewOf(turn%5+1, turn))
		if len(keys) < 2 || !checkAnyOrder(t, x, keys) {
			continue
		}
		room++
		if made, _ := impl.PutAll(x, keys); freeSlots(x) > 0 && freeSlots(made) == 0 {
			last++
		}
	}
	if room < 1000 || last < 100 {
		t.Errorf("%d lists have room, %d of them take the last free slot", room, last)
	}
}

// TestAsMuchIsVisitedInFairTables holds the promise for the fair table of the same keys, too: it only shares out the visits among them in another way.
func TestAsMuchIsVisitedInFairTables(t *testing.T) {
	others := 0
	for _, x := range poorTables() {
		if !plain(x) || freeSlots(x) == 0 {
			continue
		}
		y, _ := impl.FairOf(x)
		want, got := billOf(x), billOf(y)
		if !sameFields(x, y) {
			others++
			got.fairMisses = want.fairMisses
		}
		if !got.same(want) {
			t.Fatalf("%v costs %+v, and %v, which is fair, costs %+v", x, want, y, got)
		}
	}
	if others < 100 {
		t.Errorf("only %d tables were not fair", others)
	}
}

// noFairs are the fair misses of tables that are not fair.
func noFairs(size int) []int {
	return slices.Repeat([]int{-1}, size)
}

func TestCostsExamples(t *testing.T) {
	for text, want := range map[string]bill{
		"1+0:7 14 8 . . . .":  {5, 13, 0, []int{4, 3, 2, 1, 1, 1, 1}, []int{3, 3, 2, 1, 1, 1, 1}},
		"1+0:7 14 1 8 . . .":  {8, 17, 0, []int{5, 4, 3, 2, 1, 1, 1}, []int{3, 4, 3, 2, 1, 1, 1}},
		"1+0:14 7 . . . . .":  {3, 10, 0, []int{3, 2, 1, 1, 1, 1, 1}, noFairs(7)},
		"1+0:. 1 . 3 . . .":   {2, 9, 1, []int{1, 2, 1, 2, 1, 1, 1}, []int{1, 2, 1, 2, 1, 1, 1}},
		"0+1:. 3 9 50 . .":    {6, 12, 1, []int{1, 4, 3, 2, 1, 1}, []int{1, 4, 3, 2, 1, 1}},
		"1+0:. 1 . 3 4 . . .": {3, 12, 3, []int{1, 2, 1, 3, 2, 1, 1, 1}, []int{1, 2, 1, 2, 2, 1, 1, 1}},
		"0+0:.":               {0, 1, 0, []int{1}, []int{1}},
		"1+0:. . .":           {0, 3, 0, []int{1, 1, 1}, []int{1, 1, 1}},
		"1+0:0 .":             {1, 3, 0, []int{2, 1}, []int{2, 1}},
		// Runs that go around.
		"1+0:13 20 . . . . 6":  {6, 13, 6, []int{3, 2, 1, 1, 1, 1, 4}, []int{3, 2, 1, 1, 1, 1, 4}},
		"1+0:13 20 0 . . 5 6":  {10, 22, 5, []int{4, 3, 2, 1, 1, 6, 5}, []int{4, 3, 2, 1, 1, 2, 4}},
		"0+2:99 . 0 50":        {6, 10, 2, []int{2, 1, 4, 3}, []int{2, 1, 4, 3}},
		"1+0:0 . 2":            {2, 6, 2, []int{2, 1, 3}, []int{2, 1, 2}},
		"1+0:x . . 3 x . x":    {1, 13, 3, []int{2, 1, 1, 3, 2, 1, 3}, noFairs(7)},
		"1+0:13 x 27 . . x 6":  {7, 22, 5, []int{4, 3, 2, 1, 1, 6, 5}, noFairs(7)},
		"15+15:12 . . . . . 5": {3, 10, 6, []int{2, 1, 1, 1, 1, 1, 3}, []int{2, 1, 1, 1, 1, 1, 3}},
		// Tables without a free slot.
		"1+0:0 1":   {2, 4, 0, []int{2, 2}, noFairs(2)},
		"1+0:1 2 0": {9, 9, 0, []int{3, 3, 3}, noFairs(3)},
		"0+0:5":     {1, 1, 0, []int{1}, noFairs(1)},
		"1+0:0 x 4": {3, 9, 0, []int{3, 3, 3}, noFairs(3)},
		"0+0:x":     {0, 1, 0, []int{1}, noFairs(1)},
		"1+0:x x x": {0, 9, 0, []int{3, 3, 3}, noFairs(3)},
		"1+1:0 1 2 3 4 5 6 7 8 9 10 11 12 13 14 15": {256, 256, 0, slices.Repeat([]int{16}, 16), noFairs(16)},
		"1+0:0 1 2 3 4 5 6 7 8 9 10 11 12 13 14 15": {16, 256, 0, slices.Repeat([]int{16}, 16), noFairs(16)},
		// One free slot of many.
		"1+0:0 1 2 3 4 5 6 7 8 9 10 11 12 13 14 .": {15, 136, 0, []int{16, 15, 14, 13, 12, 11, 10, 9, 8, 7, 6, 5, 4, 3, 2, 1}, []int{2, 2, 2, 2, 2, 2, 2, 2, 2, 2, 2, 2, 2, 2, 2, 1}},
		"1+0:. 1 2 3 4 5 6 7 8 9 10 11 12 13 14 x": {14, 136, 1, []int{1, 16, 15, 14, 13, 12, 11, 10, 9, 8, 7, 6, 5, 4, 3, 2}, noFairs(16)},
		// Tombs that are passed over.
		"1+0:7 x 8 3 x . .": {4, 22, 0, []int{6, 5, 4, 3, 2, 1, 1}, noFairs(7)},
		"1+0:x x .":         {0, 6, 0, []int{3, 2, 1}, noFairs(3)},
		"1+0:. x x":         {0, 6, 1, []int{1, 3, 2}, noFairs(3)},
		"1+0:x 0 .":         {2, 6, 0, []int{3, 2, 1}, noFairs(3)},
		// Tables that are not sound.
		"1+0:. 0 . 7":      {-1, 6, 1, []int{1, 2, 1, 2}, noFairs(4)},
		"1+0:x . x 0 x":    {-1, 15, 2, []int{2, 1, 5, 4, 3}, noFairs(5)},
		"1+0:5 x x . 6":    {-1, 15, 4, []int{4, 3, 2, 1, 5}, noFairs(5)},
		"0+3:. . 50 . 7 .": {-1, 8, 2, []int{1, 1, 2, 1, 2, 1}, noFairs(6)},
	} {
		x, ok := impl.ParseTable(text)
		if got := billOf(x); !got.same(want) || !ok {
			t.Errorf("the bill of %s is %+v, not %+v", text, got, want)
		}
	}
}

// checkNoHome holds for a home that is none in a table.
func checkNoHome(t *testing.T, why string, x impl.Table, home int) {
	t.Helper()
	if miss, fairMiss := impl.MissAt(x, home), impl.FairMiss(x, home); miss != -1 || fairMiss != -1 {
		t.Errorf("%s: MissAt(%d) = %d, FairMiss = %d", why, home, miss, fairMiss)
	}
}

func TestCostsOfNoHomes(t *testing.T) {
	tables := texted()
	tables["a fair one"] = tableOf(1, 0, 7, 14, 1, 8, free, free, free)
	tables["a fair one, around"] = tableOf(1, 0, 13, 20, 0, free, free, 5, 6)
	tables["a fair one of sixteen slots"] = tableOf(1, 0, slotsWith(16, 0, 16)...)
	for why, x := range tables {
		for _, home := range noHomes(len(x.Slots)) {
			checkNoHome(t, why, x, home)
		}
	}
}

func TestCostsOfNoTables(t *testing.T) {
	for why, x := range notValid() {
		if hits, all, worst := impl.HitVisits(x), impl.MissVisits(x), impl.WorstMiss(x); hits != -1 || all != -1 || worst != -1 {
			t.Errorf("%s: HitVisits = %d, MissVisits = %d, WorstMiss = %d", why, hits, all, worst)
		}
		for _, home := range append([]int{0, 1, 4, 15, 16}, noHomes(len(x.Slots))...) {
			checkNoHome(t, why, x, home)
		}
	}
}

// TestCostsOfNoFairTables names what a table may be without being sound or fair: the visits of misses are told all the same.
func TestCostsOfNoFairTables(t *testing.T) {
	for _, tables := range []map[string]impl.Table{notSound(), withTombs(), notFair()} {
		for why, x := range tables {
			want := billBy(x)
			checkBill(t, x, want)
			if !slices.Equal(want.fairMisses, noFairs(len(x.Slots))) || want.all < 1 {
				t.Errorf("%s: the bill is %+v", why, want)
			}
		}
	}
	for why, x := range notSound() {
		if got := impl.HitVisits(x); got != -1 {
			t.Errorf("%s: HitVisits = %d", why, got)
		}
	}
}

// callCosts calls every function of the chapter.
func callCosts(x impl.Table) {
	impl.HitVisits(x)
	impl.MissVisits(x)
	impl.WorstMiss(x)
	for home := -3; home <= 18; home++ {
		impl.MissAt(x, home)
		impl.FairMiss(x, home)
	}
}

func TestTablesStayInCosts(t *testing.T) {
	checkStay(t, callCosts)
	// Here all functions look at the slots.
	memory := append(slotsWith(7, 7, 14, 1, 8), 77, 78)
	before := slices.Clone(memory)
	callCosts(tableOf(1, 0, memory[:7]...))
	if !slices.Equal(memory, before) {
		t.Errorf("the slots became %v", memory)
	}
}
