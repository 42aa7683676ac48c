package tests

import (
	"math"
	"slices"
	"strings"
	"testing"

	"loop.example/opentables/impl"
)

// tableOf builds a table without the parser, which is itself under test.
func tableOf(times int, plus int, slots ...int) impl.Table {
	return impl.Table{Times: times, Plus: plus, Slots: slots}
}

// slotsWith returns so many free slots, of which the first ones hold what is given.
func slotsWith(size int, first ...int) []int {
	slots := slices.Repeat([]int{impl.Free}, size)
	copy(slots, first)
	return slots
}

func isZero(t impl.Table) bool {
	return t.Times == 0 && t.Plus == 0 && len(t.Slots) == 0
}

// sameFields compares tables without SameTable, which is itself under test.
func sameFields(a impl.Table, b impl.Table) bool {
	return a.Times == b.Times && a.Plus == b.Plus && slices.Equal(a.Slots, b.Slots)
}

// texted are valid tables with their texts.
func texted() map[string]impl.Table {
	return map[string]impl.Table{
		"1+0:7 14 . 3 x . .": tableOf(1, 0, 7, 14, impl.Free, 3, impl.Tomb, impl.Free, impl.Free),
		"0+0:.":              tableOf(0, 0, impl.Free),
		"0+0:x":              tableOf(0, 0, impl.Tomb),
		"0+0:0":              tableOf(0, 0, 0),
		"15+15:99":           tableOf(15, 15, 99),
		"3+2:x x 0":          tableOf(3, 2, impl.Tomb, impl.Tomb, 0),
		"10+9:9 10 90":       tableOf(10, 9, 9, 10, 90),
		"9+10:. .":           tableOf(9, 10, impl.Free, impl.Free),
		"1+1:0 1 2 3 4 5 6 7 8 9 10 11 12 13 14 15":         tableOf(1, 1, 0, 1, 2, 3, 4, 5, 6, 7, 8, 9, 10, 11, 12, 13, 14, 15),
		"14+3:. x . x . x . x . x . x . x 50 99":            tableOf(14, 3, -1, -2, -1, -2, -1, -2, -1, -2, -1, -2, -1, -2, -1, -2, 50, 99),
		"2+1:99 98 97 96 95 94 93 92 91 90 89 88 87 86 . x": tableOf(2, 1, 99, 98, 97, 96, 95, 94, 93, 92, 91, 90, 89, 88, 87, 86, -1, -2),
	}
}

// notValid are tables that break one rule each.
func notValid() map[string]impl.Table {
	return map[string]impl.Table{
		"the zero value":          {},
		"no slots, not nil":       tableOf(1, 0, []int{}...),
		"a slot too many":         tableOf(1, 0, slotsWith(17)...),
		"very many slots":         tableOf(1, 0, slotsWith(100000)...),
		"Times too small":         tableOf(-1, 0, 5, impl.Free),
		"Times too great":         tableOf(16, 0, 5, impl.Free),
		"Times greatest":          tableOf(math.MaxInt, 0, 5, impl.Free),
		"Times least":             tableOf(math.MinInt, 0, 5, impl.Free),
		"Plus too small":          tableOf(1, -1, 5, impl.Free),
		"Plus too great":          tableOf(1, 16, 5, impl.Free),
		"Plus greatest":           tableOf(1, math.MaxInt, 5, impl.Free),
		"Plus least":              tableOf(1, math.MinInt, 5, impl.Free),
		"a number above all keys": tableOf(1, 0, 5, 100),
		"a number below a tomb":   tableOf(1, 0, 5, -3),
		"the greatest number":     tableOf(1, 0, 5, math.MaxInt),
		"the least number":        tableOf(1, 0, 5, math.MinInt),
		"a key twice in a row":    tableOf(1, 0, 5, 5),
		"a key first and last":    tableOf(1, 0, 5, impl.Free, impl.Tomb, 6, 5),
		"the key 0 twice":         tableOf(1, 0, 0, impl.Free, 0),
		"the key 99 twice":        tableOf(1, 0, impl.Tomb, 99, 1, 99),
		"one slot with no key":    tableOf(0, 0, 100),
	}
}

func TestConstants(t *testing.T) {
	got := []int{impl.MaxSize, impl.MaxKey, impl.MaxTimes, impl.Free, impl.Tomb}
	if !slices.Equal(got, []int{16, 99, 15, -1, -2}) {
		t.Errorf("constants = %v", got)
	}
}

func TestTableValid(t *testing.T) {
	for text, x := range texted() {
		if !impl.TableValid(x) {
			t.Errorf("TableValid(%s) = false", text)
		}
	}
	for why, x := range notValid() {
		if impl.TableValid(x) {
			t.Errorf("%s: TableValid = true", why)
		}
	}
}

func TestTableValidLimits(t *testing.T) {
	for n := -3; n <= 120; n++ {
		if got, want := impl.TableValid(tableOf(1, 1, n)), n >= -2 && n <= 99; got != want {
			t.Errorf("TableValid with a slot of %d = %v", n, got)
		}
		if got, want := impl.TableValid(tableOf(n, 1, 5)), n >= 0 && n <= 15; got != want {
			t.Errorf("TableValid with Times %d = %v", n, got)
		}
		if got, want := impl.TableValid(tableOf(1, n, 5)), n >= 0 && n <= 15; got != want {
			t.Errorf("TableValid with Plus %d = %v", n, got)
		}
		if got, want := impl.TableValid(tableOf(1, 1, slotsWith(max(n, 0))...)), n >= 1 && n <= 16; got != want {
			t.Errorf("TableValid with %d slots = %v", n, got)
		}
	}
}

func TestNotValidTables(t *testing.T) {
	for why, x := range notValid() {
		if got := impl.FormatTable(x); got != "" {
			t.Errorf("%s: FormatTable = %q", why, got)
		}
		if keys, ok := impl.KeysIn(x); len(keys) != 0 || ok {
			t.Errorf("%s: KeysIn = %v, %v", why, keys, ok)
		}
		if keys, tombs, free := impl.CountSlots(x); keys != -1 || tombs != -1 || free != -1 {
			t.Errorf("%s: CountSlots = %d, %d, %d", why, keys, tombs, free)
		}
		for _, n := range []int{math.MinInt, -1, 0, 1, 5, 16, 99, 100, math.MaxInt} {
			if got := impl.HomeOf(x, n); got != -1 {
				t.Errorf("%s: HomeOf(%d) = %d", why, n, got)
			}
			if got := impl.AwayOf(x, n); got != -1 {
				t.Errorf("%s: AwayOf(%d) = %d", why, n, got)
			}
		}
	}
}

func TestNewTable(t *testing.T) {
	for size := 1; size <= 16; size++ {
		for rule := 0; rule <= 15; rule++ {
			x, ok := impl.NewTable(size, rule, 15-rule)
			if !ok || !sameFields(x, tableOf(rule, 15-rule, slotsWith(size)...)) {
				t.Errorf("NewTable(%d, %d, %d) = %v, %v", size, rule, 15-rule, x, ok)
			}
		}
	}
}

func TestNewTableNotValid(t *testing.T) {
	for _, n := range []int{math.MinInt, -1000, -16, -1, 16, 17, 100, 1 << 40, math.MaxInt} {
		if n != 16 {
			if x, ok := impl.NewTable(n, 1, 1); !isZero(x) || ok {
				t.Errorf("NewTable(%d, 1, 1) = %v, %v", n, x, ok)
			}
		}
		if x, ok := impl.NewTable(3, n, 1); !isZero(x) || ok {
			t.Errorf("NewTable(3, %d, 1) = %v, %v", n, x, ok)
		}
		if x, ok := impl.NewTable(3, 1, n); !isZero(x) || ok {
			t.Errorf("NewTable(3, 1, %d) = %v, %v", n, x, ok)
		}
	}
	if x, ok := impl.NewTable(0, 0, 0); !isZero(x) || ok {
		t.Errorf("NewTable(0, 0, 0) = %v, %v", x, ok)
	}
}

func TestTexts(t *testing.T) {
	for text, want := range texted() {
		if got := impl.FormatTable(want); got != text {
			t.Errorf("FormatTable(%v) = %q", want, got)
		}
		if got, ok := impl.ParseTable(text); !sameFields(got, want) || !ok {
			t.Errorf("ParseTable(%q) = %v, %v", text, got, ok)
		}
	}
}

func TestTextsOfAllNumbers(t *testing.T) {
	for key := 0; key <= 99; key++ {
		want := tableOf(key%16, key*7%16, impl.Tomb, key, impl.Free)
		if got, ok := impl.ParseTable(impl.FormatTable(want)); !sameFields(got, want) || !ok {
			t.Errorf("ParseTable of %q = %v, %v", impl.FormatTable(want), got, ok)
		}
	}
}

func TestTextsOfNoTable(t *testing.T) {
	texts := []string{
		"", " ", "\n", "-", "+", ":", "+:", "1", "1+", "1+0", "1+0:", "1+:.", "+0:.", ":.", "1:0+.", "1+0.", "10:.", "1 +0:.",
		" 1+0:.", "1+ 0:.", "1+0 :.", "1+0: .", "1+0:. ", "1+0:.  .", "1+0:. .\n", "1+0:.\r", "1+0:.\t.", "1+0:..", "1+0:.x", "1+0:5x", "1+0:x5",
		"01+0:.", "00+0:.", "1+00:.", "1+01:.", "1+0:00", "1+0:01", "1+0:. 007", "-0+0:.", "1+-0:.", "1+0:-0", "1+0:+1", "+1+0:.",
		"16+0:.", "1+16:.", "99+0:.", "100+0:.", "1+0:100", "1+0:999", "1+0:-1", "1+0:-2", "-1+0:.", "1+-1:.",
		"1+0:5 5", "1+0:0 . x 0", "1+0:99 1 2 99",
		"1+0:y", "1+0:X", "1+0:_", "1+0:a", "1+0:1a", "1+0:0x5", "1+0:1_0", "1+0:1e1", "1+0:5.", "1+0:.5", "1,0:.", "1+0;.", "1+0:.,.", "1/0:.", "2+1/1+0:.",
		"1+0:.\x00", "\x001+0:.", "1+0:\xff", "1+0:\u0665", "1+0:\u00a0.", "\ufeff1+0:.", "1+0:\uff0e",
		"18446744073709551617+0:.", "1+18446744073709551616:.", "1+0:18446744073709551621", "1+0:4294967297", "1+0:-18446744073709551611",
		"1+0:" + strings.Repeat(". ", 16) + ".", "1+0:" + strings.Repeat(". ", 16), "1+0:" + strings.Repeat(". ", 100000) + ".",
		strings.Repeat("1", 100000) + "+0:.", "1+0:" + strings.Repeat("9", 100000), strings.Repeat("0", 100000) + "+0:.", strings.Repeat(" ", 100000),
	}
	for _, text := range texts {
		if got, ok := impl.ParseTable(text); !isZero(got) || ok {
			t.Errorf("ParseTable(%.40q) = %v, %v", text, got, ok)
		}
	}
}

// eachByteOther hands on the texts that a text becomes with a byte more, a byte less or a byte other, and where it is cut off.
func eachByteOther(text string, check func(string)) {
	for at := range len(text) {
		check(text[:at])
		check(text[:at] + text[at+1:])
		for b := range 256 {
			check(text[:at] + string([]byte{byte(b)}) + text[at:])
			check(text[:at] + string([]byte{byte(b)}) + text[at+1:])
		}
	}
}

// TestTextsWithAByteOther holds for each text: it is the text of the table that it parses to, or has none.
func TestTextsWithAByteOther(t *testing.T) {
	for text := range texted() {
		eachByteOther(text, func(text string) {
			got, ok := impl.ParseTable(text)
			if ok && (impl.FormatTable(got) != text || !impl.TableValid(got)) || !ok && !isZero(got) {
				t.Errorf("ParseTable(%q) = %v, %v", text, got, ok)
			}
		})
	}
}

// stepsTo counts the steps from a slot to another one around a ring, without remainders.
func stepsTo(size int, from int, to int) int {
	steps := 0
	for from != to {
		from++
		if from == size {
			from = 0
		}
		steps++
	}
	return steps
}

// slotAfter goes so many steps around a ring from the slot 0 on, without remainders.
func slotAfter(size int, steps int) int {
	slot := 0
	for range steps {
		slot++
		if slot == size {
			slot = 0
		}
	}
	return slot
}

func TestHomeOf(t *testing.T) {
	for size := 1; size <= 16; size++ {
		for times := 0; times <= 15; times++ {
			for _, plus := range []int{0, 1, 7, 15} {
				x := tableOf(times, plus, slotsWith(size, 50)...)
				for key := 0; key <= 99; key++ {
					if got, want := impl.HomeOf(x, key), slotAfter(size, times*key+plus); got != want {
						t.Fatalf("HomeOf(%v, %d) = %d, not %d", x, key, got, want)
					}
				}
			}
		}
	}
}

func TestHomeOfExamples(t *testing.T) {
	for _, c := range []struct {
		x         impl.Table
		key, want int
	}{
		{tableOf(1, 0, slotsWith(7, 7, 14)...), 14, 0},
		{tableOf(1, 0, slotsWith(7, 7, 14)...), 21, 0},
		{tableOf(15, 15, impl.Free), 99, 0},
		{tableOf(15, 15, slotsWith(16)...), 99, 12},
		{tableOf(0, 15, slotsWith(16)...), 42, 15},
		{tableOf(0, 15, slotsWith(15)...), 42, 0},
		{tableOf(1, 15, slotsWith(16)...), 1, 0},
	} {
		if got := impl.HomeOf(c.x, c.key); got != c.want {
			t.Errorf("HomeOf(%v, %d) = %d, not %d", c.x, c.key, got, c.want)
		}
	}
}

func TestHomeOfNoKey(t *testing.T) {
	for text, x := range texted() {
		for _, key := range []int{math.MinInt, -100, -3, impl.Tomb, impl.Free, 100, 101, math.MaxInt} {
			if got := impl.HomeOf(x, key); got != -1 {
				t.Errorf("HomeOf(%s, %d) = %d", text, key, got)
			}
		}
	}
}

func TestKeysIn(t *testing.T) {
	for text, want := range map[string][]int{
		"1+0:7 14 . 3 x . .": {3, 7, 14}, "0+0:.": nil, "0+0:x": nil, "3+2:x x 0": {0}, "15+15:99": {99}, "10+9:9 10 90": {9, 10, 90},
		"2+1:99 98 97 96 95 94 93 92 91 90 89 88 87 86 . x": {86, 87, 88, 89, 90, 91, 92, 93, 94, 95, 96, 97, 98, 99},
	} {
		if got, ok := impl.KeysIn(texted()[text]); !slices.Equal(got, want) || !ok {
			t.Errorf("KeysIn(%s) = %v, %v", text, got, ok)
		}
	}
}

func TestCountSlots(t *testing.T) {
	for text, want := range map[string][3]int{
		"1+0:7 14 . 3 x . .": {3, 1, 3}, "0+0:.": {0, 0, 1}, "0+0:x": {0, 1, 0}, "0+0:0": {1, 0, 0}, "3+2:x x 0": {1, 2, 0},
		"14+3:. x . x . x . x . x . x . x 50 99": {2, 7, 7}, "1+1:0 1 2 3 4 5 6 7 8 9 10 11 12 13 14 15": {16, 0, 0},
	} {
		keys, tombs, free := impl.CountSlots(texted()[text])
		if got := [3]int{keys, tombs, free}; got != want {
			t.Errorf("CountSlots(%s) = %v", text, got)
		}
	}
}

func TestSameTable(t *testing.T) {
	same := [][2]impl.Table{
		{{}, {}}, {{}, tableOf(0, 0, []int{}...)}, {tableOf(3, 2, nil...), tableOf(3, 2, []int{}...)},
		{tableOf(1, 2, 3, -1), tableOf(1, 2, 3, -1)}, {tableOf(-1, 99, 500, 500), tableOf(-1, 99, 500, 500)},
	}
	for _, c := range same {
		if !impl.SameTable(c[0], c[1]) || !impl.SameTable(c[1], c[0]) {
			t.Errorf("SameTable(%v, %v) = false", c[0], c[1])
		}
	}
	one := tableOf(1, 2, 3, -1)
	for _, other := range []impl.Table{
		{}, tableOf(2, 2, 3, -1), tableOf(1, 1, 3, -1), tableOf(2, 1, 3, -1), tableOf(1, 2, 4, -1), tableOf(1, 2, 3, -2), tableOf(1, 2, -1, 3),
		tableOf(1, 2, 3), tableOf(1, 2), tableOf(1, 2, 3, -1, -1), tableOf(1, 2, -1, 3, -1), tableOf(1, 18, 3, -1),
	} {
		if impl.SameTable(one, other) || impl.SameTable(other, one) {
			t.Errorf("SameTable(%v, %v) = true", one, other)
		}
	}
	if impl.SameTable(tableOf(1, 0, 5, 5), tableOf(1, 0, 5, 6)) {
		t.Error("SameTable of two tables that are not valid = true")
	}
}

func TestSameTableOfAll(t *testing.T) {
	for one, x := range texted() {
		for two, y := range texted() {
			if got := impl.SameTable(x, y); got != (one == two) {
				t.Errorf("SameTable(%s, %s) = %v", one, two, got)
			}
		}
		for why, y := range notValid() {
			if impl.SameTable(x, y) || impl.SameTable(y, x) || !impl.SameTable(y, y) {
				t.Errorf("SameTable(%s, %s)", one, why)
			}
		}
	}
}

// TestAwayOf puts one key into each slot of each ring: behind the last slot the first one follows.
func TestAwayOf(t *testing.T) {
	for size := 1; size <= 16; size++ {
		for slot := range size {
			for key := 0; key <= 99; key++ {
				x := tableOf(3, 5, slotsWith(size)...)
				x.Slots[slot] = key
				home := slotAfter(size, 3*key+5)
				if got, want := impl.AwayOf(x, slot), stepsTo(size, home, slot); got != want {
					t.Fatalf("AwayOf(%v, %d) = %d, not %d", x, slot, got, want)
				}
			}
		}
	}
}

func TestAwayOfExamples(t *testing.T) {
	for _, c := range []struct {
		x    impl.Table
		want []int
	}{
		{tableOf(1, 0, 7, 14, -1, 3, -2, -1, -1), []int{0, 1, -1, 0, -1, -1, -1}},
		{tableOf(3, 2, 5, -1, 1, 9), []int{3, -1, 1, 2}},
		{tableOf(1, 0, 6, 13, 5, -1, -1, -1, 20), []int{1, 2, 4, -1, -1, -1, 0}},
		{tableOf(15, 15, 99), []int{0}},
		{tableOf(0, 0, -2), []int{-1}},
		{tableOf(0, 0, -1), []int{-1}},
		{tableOf(0, 1, 4, 3, 2), []int{2, 0, 1}},
		{tableOf(0, 0, slotsWith(16, 1, 2)...), append([]int{0, 1}, slices.Repeat([]int{-1}, 14)...)},
	} {
		for slot, want := range c.want {
			if got := impl.AwayOf(c.x, slot); got != want {
				t.Errorf("AwayOf(%v, %d) = %d, not %d", c.x, slot, got, want)
			}
		}
	}
}

func TestAwayOfNoSlot(t *testing.T) {
	for text, x := range texted() {
		size := len(x.Slots)
		for _, slot := range []int{math.MinInt, -size - 1, -size, -2, -1, size, size + 1, 2 * size, 99, math.MaxInt} {
			if got := impl.AwayOf(x, slot); got != -1 {
				t.Errorf("AwayOf(%s, %d) = %d", text, slot, got)
			}
		}
	}
}

// callAll calls every function of the chapter that is handed a table.
func callAll(x impl.Table) {
	impl.TableValid(x)
	impl.FormatTable(x)
	impl.KeysIn(x)
	impl.CountSlots(x)
	impl.SameTable(x, x)
	for n := -3; n <= 101; n++ {
		impl.HomeOf(x, n)
		impl.AwayOf(x, n)
	}
}

// checkStay looks at the memory of the tables that are handed on, also beyond their length.
func checkStay(t *testing.T, call func(impl.Table)) {
	tables := texted()
	for why, x := range notValid() {
		tables[why] = x
	}
	for name, x := range tables {
		memory := append(slices.Clone(x.Slots), 77, 78)
		before := slices.Clone(memory)
		call(impl.Table{Times: x.Times, Plus: x.Plus, Slots: memory[:len(x.Slots)]})
		if !slices.Equal(memory, before) {
			t.Errorf("%s: the slots became %v", name, memory)
		}
	}
}

func TestTablesStay(t *testing.T) {
	checkStay(t, callAll)
}

// spoil changes all the memory that a slice reaches.
func spoil(list []int) {
	list = list[:cap(list)]
	for i := range list {
		list[i] = 55
	}
}

func TestResultsShareNothing(t *testing.T) {
	const text = "1+0:7 14 . 3 x . ."
	parsed, _ := impl.ParseTable(text)
	again, _ := impl.ParseTable(text)
	keys, _ := impl.KeysIn(again)
	fresh, _ := impl.NewTable(3, 1, 0)
	for _, list := range [][]int{parsed.Slots, keys, fresh.Slots} {
		spoil(list)
	}
	if got := impl.FormatTable(again); got != text {
		t.Errorf("a table became %q", got)
	}
	if got, _ := impl.KeysIn(again); !slices.Equal(got, []int{3, 7, 14}) {
		t.Errorf("KeysIn = %v", got)
	}
	if got, _ := impl.NewTable(3, 1, 0); impl.FormatTable(got) != "1+0:. . ." {
		t.Errorf("NewTable = %v", got)
	}
	if got, _ := impl.ParseTable(text); impl.FormatTable(got) != text {
		t.Errorf("ParseTable = %v", got)
	}
}
