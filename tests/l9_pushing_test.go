package tests

import (
	"math"
	"slices"
	"strconv"
	"strings"
	"testing"

	"loop.example/opentables/impl"
)

// nestIn makes a nest of a table by which the first homes go.
func nestIn(x impl.Table, more int, again int) impl.Nest {
	return impl.Nest{Times: x.Times, Plus: x.Plus, More: more, Again: again, Slots: x.Slots}
}

// firstOf returns the table by which the first homes go.
func firstOf(n impl.Nest) impl.Table {
	return tableOf(n.Times, n.Plus, n.Slots...)
}

func isZeroNest(n impl.Nest) bool {
	return sameNest(n, impl.Nest{})
}

func sameNest(a impl.Nest, b impl.Nest) bool {
	return a.More == b.More && a.Again == b.Again && sameFields(firstOf(a), firstOf(b))
}

// nestText writes a nest without FormatNest, which is itself under test.
func nestText(n impl.Nest) string {
	if isZeroNest(n) {
		return ""
	}
	return strconv.Itoa(n.More) + "+" + strconv.Itoa(n.Again) + "/" + impl.FormatTable(firstOf(n))
}

// nestBy reads a nest without ParseNest, which is itself under test.
func nestBy(more int, again int, text string) impl.Nest {
	x, _ := impl.ParseTable(text)
	return nestIn(x, more, again)
}

// twoHomes are both homes of a key, without remainders.
func twoHomes(n impl.Nest, key int) (int, int) {
	return slotAfter(len(n.Slots), n.Times*key+n.Plus), slotAfter(len(n.Slots), n.More*key+n.Again)
}

// validNest holds a nest of two valid tables against the definition.
func validNest(n impl.Nest) bool {
	for slot, holds := range n.Slots {
		if holds == free {
			continue
		}
		if holds == tomb {
			return false
		}
		if first, second := twoHomes(n, holds); slot != first && slot != second {
			return false
		}
	}
	return true
}

// inSlot returns a nest in which a slot holds something else.
func inSlot(n impl.Nest, slot int, holds int) impl.Nest {
	n.Slots = slices.Clone(n.Slots)
	n.Slots[slot] = holds
	return n
}

// pushedInto pushes a key that a nest does not have, put by put.
func pushedInto(n impl.Nest, key int) (impl.Nest, []int) {
	var pushes []int
	slot, _ := twoHomes(n, key)
	for range 40 {
		was := n.Slots[slot]
		n = inSlot(n, slot, key)
		if was == free {
			return n, pushes
		}
		pushes = append(pushes, was)
		first, second := twoHomes(n, was)
		key, slot = was, first+second-slot
	}
	return impl.Nest{}, nil
}

// pulledFrom pulls a key, if the nest has it.
func pulledFrom(n impl.Nest, key int) impl.Nest {
	slot := slices.Index(n.Slots, key)
	if slot < 0 {
		return impl.Nest{}
	}
	return inSlot(n, slot, free)
}

// haveRoom tries all ways to place different keys of a nest, whatever its slots hold.
func haveRoom(n impl.Nest, keys []int, taken map[int]bool) bool {
	if len(keys) == 0 {
		return true
	}
	first, second := twoHomes(n, keys[0])
	for _, slot := range []int{first, second} {
		if taken[slot] {
			continue
		}
		taken[slot] = true
		if haveRoom(n, keys[1:], taken) {
			return true
		}
		taken[slot] = false
	}
	return false
}

// checkPush compares what the functions that push a key return with what they should: without a nest there is no room.
func checkPush(t *testing.T, n impl.Nest, key int, want impl.Nest, pushes []int) {
	t.Helper()
	if got, ok := impl.PushKey(n, key); !sameNest(got, want) || ok == isZeroNest(want) {
		t.Errorf("PushKey(%v, %d) = %v, %v, not %v", n, key, got, ok, want)
	}
	if got, ok := impl.PushesBy(n, key); !slices.Equal(got, pushes) || ok == isZeroNest(want) {
		t.Errorf("PushesBy(%v, %d) = %v, %v, not %v", n, key, got, ok, pushes)
	}
}

// checkFoundAt compares where a key is found, and what the nest is without it, with what should be.
func checkFoundAt(t *testing.T, n impl.Nest, key int, slot int, pulled impl.Nest) {
	t.Helper()
	if got, ok := impl.FindNest(n, key); got != slot || ok != (slot >= 0) {
		t.Errorf("FindNest(%v, %d) = %d, %v, not %d", n, key, got, ok, slot)
	}
	if got, ok := impl.PullKey(n, key); !sameNest(got, pulled) || ok == isZeroNest(pulled) {
		t.Errorf("PullKey(%v, %d) = %v, %v, not %v", n, key, got, ok, pulled)
	}
}

func checkHomes(t *testing.T, n impl.Nest, key int, first int, second int) {
	t.Helper()
	if one, two := impl.HomesOf(n, key); one != first || two != second {
		t.Errorf("HomesOf(%v, %d) = %d, %d, not %d, %d", n, key, one, two, first, second)
	}
}

func checkPushAll(t *testing.T, n impl.Nest, keys []int, want impl.Nest) {
	t.Helper()
	if got, ok := impl.PushAll(n, keys); !sameNest(got, want) || ok == isZeroNest(want) {
		t.Errorf("PushAll(%v, %v) = %v, %v, not %v", n, keys, got, ok, want)
	}
}

// checkNest holds a valid nest and some keys against the definitions.
func checkNest(t *testing.T, n impl.Nest, keys []int) {
	t.Helper()
	if !impl.NestValid(n) {
		t.Errorf("NestValid(%v) = false", n)
	}
	if got := impl.FormatNest(n); got != nestText(n) {
		t.Errorf("FormatNest(%v) = %q", n, got)
	}
	if got, ok := impl.ParseNest(nestText(n)); !sameNest(got, n) || !ok {
		t.Errorf("ParseNest(%s) = %v, %v", nestText(n), got, ok)
	}
	for _, key := range keys {
		first, second := twoHomes(n, key)
		checkHomes(t, n, key, first, second)
		slot := slices.Index(n.Slots, key)
		checkFoundAt(t, n, key, slot, pulledFrom(n, key))
		if slot >= 0 {
			checkPush(t, n, key, impl.Nest{}, nil)
			continue
		}
		want, pushes := pushedInto(n, key)
		checkPush(t, n, key, want, pushes)
	}
}

// checkNoNest holds for nests that are not valid.
func checkNoNest(t *testing.T, why string, n impl.Nest) {
	t.Helper()
	if impl.NestValid(n) {
		t.Errorf("%s: NestValid(%v) = true", why, n)
	}
	if got := impl.FormatNest(n); got != "" {
		t.Errorf("%s: FormatNest(%v) = %q", why, n, got)
	}
	for _, number := range append([]int{0, 1, 4, 5, 7, 50, 99}, noKeys...) {
		checkHomes(t, n, number, -1, -1)
		checkFoundAt(t, n, number, -1, impl.Nest{})
		checkPush(t, n, number, impl.Nest{}, nil)
		checkPushAll(t, n, []int{number}, impl.Nest{})
	}
	checkPushAll(t, n, nil, impl.Nest{})
}

// pushedAll pushes keys one behind the other.
func pushedAll(n impl.Nest, keys []int) impl.Nest {
	for _, key := range keys {
		if slices.Contains(n.Slots, key) {
			continue
		}
		if n, _ = pushedInto(n, key); isZeroNest(n) {
			return n
		}
	}
	return n
}

func TestMaxPushes(t *testing.T) {
	if impl.MaxPushes != 40 {
		t.Errorf("MaxPushes = %d", impl.MaxPushes)
	}
}

// TestSmallNests goes through all small nests, valid or not, with second homes that are apart from the first ones, the same, and all one slot.
func TestSmallNests(t *testing.T) {
	valid, others := 0, 0
	for size := 1; size <= 4; size++ {
		for _, rule := range [][4]int{{1, 0, 2, 1}, {1, 0, 1, 0}, {1, 0, 1, 1}, {0, 0, 0, 3}, {2, 0, 1, 0}, {1, 3, 0, 2}, {15, 15, 14, 7}} {
			for _, x := range smallTables(size, rule[0], rule[1], 0, 4, 5, 7, 99) {
				n := nestIn(x, rule[2], rule[3])
				if !validNest(n) {
					checkNoNest(t, "a slot holds what it can't", n)
					others++
					continue
				}
				checkNest(t, n, lookedFor)
				for _, keys := range putLists {
					checkPushAll(t, n, keys, pushedAll(n, keys))
				}
				valid++
			}
		}
	}
	if valid < 500 || others < 5000 {
		t.Errorf("%d nests were valid, and %d were not", valid, others)
	}
}

// emptyNests are nests of all sizes, with rules of all kinds.
func emptyNests() []impl.Nest {
	var nests []impl.Nest
	for size := 1; size <= 16; size++ {
		for times := range 16 {
			x := tableOf(times, 15-times, slotsWith(size)...)
			nests = append(nests, nestIn(x, (7*times+3)%16, (5*times+size)%16), nestIn(x, 15-times, times))
		}
		nests = append(nests, nestIn(tableOf(1, 0, slotsWith(size)...), 1, 1), nestIn(tableOf(1, 0, slotsWith(size)...), 2, 1))
	}
	return nests
}

func TestAllHomes(t *testing.T) {
	for _, n := range emptyNests() {
		for key := 0; key <= 99; key++ {
			first, second := twoHomes(n, key)
			checkHomes(t, n, key, first, second)
		}
	}
}

// checkInHomes holds the promise itself: each key of a nest lies in one of its homes and is found there, and no other one is.
func checkInHomes(t *testing.T, n impl.Nest, keys []int) {
	t.Helper()
	if got := keysOf(firstOf(n)); !slices.Equal(got, keys) || !impl.NestValid(n) {
		t.Fatalf("%v has the keys %v, not %v", n, got, keys)
	}
	for key := 0; key <= 99; key++ {
		slot, ok := impl.FindNest(n, key)
		if ok != slices.Contains(keys, key) {
			t.Fatalf("FindNest(%v, %d) = %d, %v", n, key, slot, ok)
		}
		if !ok {
			continue
		}
		if first, second := impl.HomesOf(n, key); n.Slots[slot] != key || slot != first && slot != second {
			t.Fatalf("FindNest(%v, %d) = %d, of the homes %d and %d", n, key, slot, first, second)
		}
	}
}

// TestKeysLieInTheirHomes pushes more keys into nests of all sizes than there are slots, and pulls some on the way. There is room for a key just if all can be placed: whatever has been pushed before stands in no one's way.
func TestKeysLieInTheirHomes(t *testing.T) {
	pushed, refused, pulled := 0, 0, 0
	for turn, n := range emptyNests() {
		var keys []int
		for i := range len(n.Slots) + 4 {
			key := (i*37 + turn) % 100
			want, pushes := pushedInto(n, key)
			checkPush(t, n, key, want, pushes)
			more, ok := impl.PushKey(n, key)
			if ok != haveRoom(n, append(slices.Clone(keys), key), map[int]bool{}) {
				t.Fatalf("PushKey(%v, %d) = %v, %v", n, key, more, ok)
			}
			if !ok {
				refused++
				continue
			}
			n, keys, pushed = more, withKey(keys, key), pushed+1
			checkInHomes(t, n, keys)
			if (turn+i)%5 == 0 {
				gone := keys[turn%len(keys)]
				n, _ = impl.PullKey(n, gone)
				keys, pulled = withoutKey(keys, gone), pulled+1
				checkInHomes(t, n, keys)
			}
		}
	}
	if pushed < 500 || refused < 500 || pulled < 100 {
		t.Errorf("%d keys were pushed, %d refused and %d pulled", pushed, refused, pulled)
	}
}

func TestPushListsIntoNests(t *testing.T) {
	whole, refused := 0, 0
	for turn, n := range emptyNests() {
		for length := range len(n.Slots) + 1 {
			var keys []int
			for i := range length {
				keys = append(keys, (i*37+turn)%100, (i/2*37+turn)%100)
			}
			want := pushedAll(n, keys)
			checkPushAll(t, n, keys, want)
			if isZeroNest(want) {
				refused++
			} else {
				whole++
			}
		}
	}
	if whole < 500 || refused < 500 {
		t.Errorf("there was room for %d lists, and none for %d", whole, refused)
	}
}

func TestNewNests(t *testing.T) {
	for size := 1; size <= 16; size++ {
		for rule := range 16 {
			want := nestIn(tableOf(rule, 15-rule, slotsWith(size)...), rule*7%16, rule*5%16)
			if got, ok := impl.NewNest(size, want.Times, want.Plus, want.More, want.Again); !sameNest(got, want) || !ok {
				t.Errorf("NewNest(%d, ..) = %v, %v, not %v", size, got, ok, want)
			}
		}
	}
}

func TestNewNoNests(t *testing.T) {
	check := func(size int, rule [4]int) {
		t.Helper()
		if got, ok := impl.NewNest(size, rule[0], rule[1], rule[2], rule[3]); !isZeroNest(got) || ok {
			t.Errorf("NewNest(%d, %v) = %v, %v", size, rule, got, ok)
		}
	}
	for _, size := range noSizes {
		check(size, [4]int{1, 0, 2, 1})
	}
	for place := range 4 {
		for _, number := range []int{math.MinInt, -16, -1, 16, 17, 100, 1 << 32, math.MaxInt} {
			rule := [4]int{1, 0, 2, 1}
			rule[place] = number
			check(7, rule)
			check(17, rule)
		}
	}
}

// textedNests are valid nests with their texts.
func textedNests() map[string]impl.Nest {
	return map[string]impl.Nest{
		"2+1/1+0:0 . . . 5 12 .": nestIn(tableOf(1, 0, slotsWith(7, 0, free, free, free, 5, 12)...), 2, 1),
		"0+0/0+0:.":              nestIn(tableOf(0, 0, free), 0, 0),
		"15+14/13+12:99":         nestIn(tableOf(13, 12, 99), 15, 14),
		"1+0/0+1:2 9":            nestIn(tableOf(0, 1, 2, 9), 1, 0),
		"0+1/1+0:2 9":            nestIn(tableOf(1, 0, 2, 9), 0, 1),
		"10+9/9+10:. .":          nestIn(tableOf(9, 10, free, free), 10, 9),
		"1+1/1+0:16 0 1 2 3 4 5 6 7 8 9 10 11 12 13 .": nestIn(tableOf(1, 0, 16, 0, 1, 2, 3, 4, 5, 6, 7, 8, 9, 10, 11, 12, 13, free), 1, 1),
	}
}

func TestNestTexts(t *testing.T) {
	for text, n := range textedNests() {
		if got := impl.FormatNest(n); got != text {
			t.Errorf("FormatNest(%v) = %q", n, got)
		}
		if got, ok := impl.ParseNest(text); !sameNest(got, n) || !ok {
			t.Errorf("ParseNest(%q) = %v, %v", text, got, ok)
		}
	}
}

func TestTextsOfNoNest(t *testing.T) {
	texts := []string{
		"", " ", "/", "+/+:", "1", "1+", "1+0", "1+0/", "1+0/1", "1+0/1+0", "1+0/1+0:", "/1+0:.", "1/1+0:.", "+0/1+0:.", "1+/1+0:.", "1+0/+0:.", "1+0/1+:.",
		// The text of a table, and of two.
		"1+0:.", "1+0:./1+0:.", "2+1:/1+0:.", "1+0/1+0/1+0:.", "1+0//1+0:.", "1+0:1+0/.", "1+0 1+0:.", "1+0:1+0:.", "1+0/1+0/.",
		"01+0/1+0:.", "1+00/1+0:.", "1+0/01+0:.", "1+0/1+00:.", "1+0/1+0:00", "-1+0/1+0:.", "1+-1/1+0:.", "-0+0/1+0:.", "+1+0/1+0:.",
		"16+0/1+0:.", "1+16/1+0:.", "1+0/16+0:.", "1+0/1+16:.", "1+0/1+0:100", "1+0/1+0:-1", "99+0/1+0:.", "100+0/1+0:.",
		" 1+0/1+0:.", "1+0/1+0:. ", "1 +0/1+0:.", "1+0 /1+0:.", "1+0/ 1+0:.", "1+0/1+0: .", "1+0/1+0:.  .", "1+0/1+0:.\n", "1+0/1+0:..", "1+0/1+0:. .\x00",
		// A tomb, a key twice, and keys outside their homes.
		"2+1/1+0:x", "2+1/1+0:. x", "0+0/1+0:0 x", "2+1/1+0:5 .", "2+1/1+0:. . . . . . 5", "2+1/1+0:. . . . 5 5 .", "0+0/0+0:1 1", "0+0/0+0:. 1", "1+0/1+0:1 0",
		"18446744073709551617+0/1+0:.", "1+18446744073709551616/1+0:.", "4294967297+0/1+0:.",
		"1+0/1+0:" + strings.Repeat(". ", 16) + ".", "1+0/1+0:" + strings.Repeat(". ", 100000) + ".", strings.Repeat("1", 100000) + "+0/1+0:.", strings.Repeat("1+0/", 100000),
	}
	for _, text := range texts {
		if got, ok := impl.ParseNest(text); !isZeroNest(got) || ok {
			t.Errorf("ParseNest(%.40q) = %v, %v", text, got, ok)
		}
	}
}

// TestNestTextsWithAByteOther holds for each text: it is the text of the nest that it parses to, or has none.
func TestNestTextsWithAByteOther(t *testing.T) {
	for text := range textedNests() {
		eachByteOther(text, func(text string) {
			got, ok := impl.ParseNest(text)
			if ok && (nestText(got) != text || !impl.NestValid(got)) || !ok && !isZeroNest(got) {
				t.Errorf("ParseNest(%q) = %v, %v", text, got, ok)
			}
		})
	}
}

func TestPushExamples(t *testing.T) {
	for _, c := range []struct {
		more, again int
		text        string
		key         int
		want        string
		pushes      []int
	}{
		{2, 1, "1+0:. . . . . . .", 5, "2+1/1+0:. . . . . 5 .", nil},
		{2, 1, "1+0:. . . . . 5 .", 12, "2+1/1+0:. . . . 5 12 .", []int{5}},
		{2, 1, "1+0:. . . . 5 12 .", 0, "2+1/1+0:0 . . . 5 12 .", nil},
		// Into the first home although only the second one is free, and from the second one back into the first.
		{2, 1, "1+0:0 . . . 5 12 .", 7, "2+1/1+0:7 0 . . 5 12 .", []int{0}},
		{2, 1, "1+0:. 0 . . . . .", 1, "2+1/1+0:0 1 . . . . .", []int{0}},
		// A key is put into a slot once more, so that the new one is pushed itself.
		{2, 1, "1+0:0 . . . 5 12 .", 4, "2+1/1+0:0 . 4 . 12 5 .", []int{5, 12, 4}},
		{2, 1, "1+0:7 0 . . . . .", 1, "2+1/1+0:0 7 . 1 . . .", []int{0, 7, 1}},
		// Keys on the way there are pushed twice.
		{1, 1, "1+0:5 0 1 . .", 2, "1+1/1+0:0 5 1 2 .", []int{1, 0, 5, 1, 2}},
		// Keys whose homes are one slot: they can be put there, are pushed out and put there again, or are in each other's way.
		{2, 1, "1+0:. . . . . . .", 6, "2+1/1+0:. . . . . . 6", nil},
		{2, 1, "1+0:. . . . . . 6", 13, "", nil},
		{1, 0, "2+0:. . . . . .", 0, "1+0/2+0:0 . . . . .", nil},
		{1, 0, "2+0:0 . . . . .", 3, "1+0/2+0:0 . . 3 . .", []int{0, 3}},
		{1, 0, "2+0:3 . . . . .", 0, "1+0/2+0:0 . . 3 . .", []int{3}},
		{1, 0, "2+0:3 . . 9 . .", 0, "", nil},
		{1, 0, "2+0:0 . . 3 . .", 9, "", nil},
		{1, 0, "2+0:0 . . 3 . .", 6, "", nil},
		{0, 0, "0+0:. . .", 8, "0+0/0+0:8 . .", nil},
		{0, 0, "0+0:8 . .", 9, "", nil},
		{0, 2, "0+0:8 . .", 9, "0+2/0+0:9 . 8", []int{8}},
		{0, 2, "0+0:9 . 8", 7, "", nil},
		// One slot.
		{15, 15, "0+0:.", 99, "15+15/0+0:99", nil},
		{15, 15, "0+0:99", 0, "", nil},
		// There are free slots, but none of them is a home.
		{2, 1, "1+0:0 . . . 5 12 .", 19, "", nil},
		{2, 1, "1+0:0 7 . . 5 12 .", 14, "", nil},
		// There is none.
		{1, 1, "1+0:0 1 2", 3, "", nil},
		{1, 1, "1+0:2 0 1", 5, "", nil},
		// The nest has the key, in its first home or its second one.
		{2, 1, "1+0:0 . . . 5 12 .", 12, "", nil},
		{2, 1, "1+0:0 . . . 5 12 .", 5, "", nil},
	} {
		n := nestBy(c.more, c.again, c.text)
		got, ok := impl.PushKey(n, c.key)
		if nestText(got) != c.want || ok != (c.want != "") {
			t.Errorf("PushKey(%v, %d) = %v, %v, not %s", n, c.key, got, ok, c.want)
		}
		if pushes, ok := impl.PushesBy(n, c.key); !slices.Equal(pushes, c.pushes) || ok != (c.want != "") {
			t.Errorf("PushesBy(%v, %d) = %v, %v, not %v", n, c.key, pushes, ok, c.pushes)
		}
	}
}

// TestPushAllTwice pushes as many keys twice as there can be in a ring: each is pushed ahead, and back once two have changed places at its start.
func TestPushAllTwice(t *testing.T) {
	n := nestBy(1, 1, "1+0:16 0 1 2 3 4 5 6 7 8 9 10 11 12 13 .")
	want := nestBy(1, 1, "1+0:0 16 1 2 3 4 5 6 7 8 9 10 11 12 13 14")
	checkPush(t, n, 14, want, []int{13, 12, 11, 10, 9, 8, 7, 6, 5, 4, 3, 2, 1, 0, 16, 1, 2, 3, 4, 5, 6, 7, 8, 9, 10, 11, 12, 13, 14})
}

func TestPushAllExamples(t *testing.T) {
	for _, c := range []struct {
		more, again int
		text        string
		keys        []int
		want        string
	}{
		{2, 1, "1+0:. . . . . . .", []int{5, 12, 0}, "2+1/1+0:0 . . . 5 12 ."},
		{2, 1, "1+0:. . . . . . .", nil, "2+1/1+0:. . . . . . ."},
		// The order matters.
		{2, 1, "1+0:. . . . . . .", []int{12, 5, 0}, "2+1/1+0:0 . . . 12 5 ."},
		// Keys that the nest has are passed over, also those that stand twice in the list and have been pushed away since.
		{2, 1, "1+0:0 . . . 5 12 .", []int{5, 7, 0}, "2+1/1+0:7 0 . . 5 12 ."},
		{2, 1, "1+0:0 . . . 5 12 .", []int{12, 5, 0}, "2+1/1+0:0 . . . 5 12 ."},
		{2, 1, "1+0:. . . . . . .", []int{5, 5, 12, 5, 12}, "2+1/1+0:. . . . 5 12 ."},
		{2, 1, "1+0:. . . . . . 6", []int{6, 6}, "2+1/1+0:. . . . . . 6"},
		{1, 0, "2+0:. . . . . .", []int{0, 3, 0, 3}, "1+0/2+0:0 . . 3 . ."},
		{1, 1, "1+0:0 1 2", []int{2, 1, 0, 2}, "1+1/1+0:0 1 2"},
		// There is no room for the first key, one between, or the last one.
		{2, 1, "1+0:0 . . . 5 12 .", []int{19, 1}, ""},
		{2, 1, "1+0:0 . . . 5 12 .", []int{1, 19, 2}, ""},
		{2, 1, "1+0:. . . . . . .", []int{6, 0, 13}, ""},
		{1, 0, "2+0:. . . . . .", []int{0, 3, 9}, ""},
		{1, 1, "1+0:0 1 2", []int{3}, ""},
		{15, 15, "0+0:.", []int{99, 99, 0}, ""},
		{15, 15, "0+0:.", []int{99, 99}, "15+15/0+0:99"},
	} {
		n := nestBy(c.more, c.again, c.text)
		if got, ok := impl.PushAll(n, c.keys); nestText(got) != c.want || ok != (c.want != "") {
			t.Errorf("PushAll(%v, %v) = %v, %v, not %s", n, c.keys, got, ok, c.want)
		}
	}
}

func TestPullExamples(t *testing.T) {
	for _, c := range []struct {
		more, again int
		text        string
		key, slot   int
		want        string
	}{
		{2, 1, "1+0:0 . . . 5 12 .", 12, 5, "2+1/1+0:0 . . . 5 . ."},
		{2, 1, "1+0:0 . . . 5 12 .", 5, 4, "2+1/1+0:0 . . . . 12 ."},
		{2, 1, "1+0:0 . . . 5 12 .", 0, 0, "2+1/1+0:. . . . 5 12 ."},
		{2, 1, "1+0:. . . . . . 6", 6, 6, "2+1/1+0:. . . . . . ."},
		{15, 15, "0+0:99", 99, 0, "15+15/0+0:."},
		{1, 1, "1+0:2 0 1", 1, 2, "1+1/1+0:2 0 ."},
		// The nest does not have the key, although another one lies in its homes.
		{2, 1, "1+0:0 . . . 5 12 .", 19, -1, ""},
		{2, 1, "1+0:0 . . . 5 12 .", 7, -1, ""},
		{2, 1, "1+0:0 . . . 5 12 .", 3, -1, ""},
		{2, 1, "1+0:. . . . . . .", 0, -1, ""},
	} {
		n := nestBy(c.more, c.again, c.text)
		if got, ok := impl.PullKey(n, c.key); nestText(got) != c.want || ok != (c.want != "") {
			t.Errorf("PullKey(%v, %d) = %v, %v, not %s", n, c.key, got, ok, c.want)
		}
		if got, ok := impl.FindNest(n, c.key); got != c.slot || ok != (c.slot >= 0) {
			t.Errorf("FindNest(%v, %d) = %d, %v, not %d", n, c.key, got, ok, c.slot)
		}
	}
}

// TestPulledKeysMakeRoom pushes a key where there was no room for it.
func TestPulledKeysMakeRoom(t *testing.T) {
	n := nestBy(2, 1, "1+0:0 . . . 5 12 .")
	checkPush(t, n, 19, impl.Nest{}, nil)
	n, _ = impl.PullKey(n, 5)
	checkPush(t, n, 19, nestBy(2, 1, "1+0:0 . . . 12 19 ."), []int{12})
}

// notNests are nests that break one rule each.
func notNests() map[string]impl.Nest {
	x := tableOf(1, 0, slotsWith(7, 0, free, free, free, 5, 12)...)
	nests := map[string]impl.Nest{
		"the zero value":                      {},
		"no slots, not nil":                   nestIn(tableOf(1, 0, []int{}...), 2, 1),
		"a tomb":                              nestIn(tableOf(1, 0, slotsWith(7, 0, tomb)...), 2, 1),
		"tombs only":                          nestIn(tableOf(1, 0, tomb, tomb), 2, 1),
		"a tomb at the end":                   nestIn(tableOf(1, 0, free, free, tomb), 2, 1),
		"a key in both its homes":             nestIn(tableOf(1, 0, slotsWith(7, free, free, free, free, 5, 5)...), 2, 1),
		"a key twice, outside once":           nestIn(tableOf(1, 0, slotsWith(7, 5, free, free, free, 5)...), 2, 1),
		"the key 0 in both":                   nestIn(tableOf(1, 0, slotsWith(7, 0, 0)...), 2, 1),
		"a key outside its homes":             nestIn(tableOf(1, 0, slotsWith(7, 5)...), 2, 1),
		"a key behind its homes":              nestIn(tableOf(1, 0, slotsWith(7, free, free, free, free, free, free, 5)...), 2, 1),
		"a key ahead of its homes":            nestIn(tableOf(1, 0, slotsWith(7, free, free, free, 5)...), 2, 1),
		"a key beside its one home":           nestIn(tableOf(1, 0, slotsWith(7, free, free, free, free, free, 6)...), 2, 1),
		"one outside, the others in":          inSlot(nestIn(x, 2, 1), 6, 19),
		"in the home of another rule":         nestIn(x, 2, 2),
		"in the home of another Times":        nestIn(tableOf(2, 0, x.Slots...), 2, 1),
		"a key in the slot of its own number": nestIn(tableOf(0, 0, free, free, 2), 0, 1),
	}
	for _, number := range []int{math.MinInt, -16, -1, 16, 17, 1 << 32, math.MaxInt} {
		nests["More "+strconv.Itoa(number)] = nestIn(x, number, 1)
		nests["Again "+strconv.Itoa(number)] = nestIn(x, 2, number)
		nests["Times "+strconv.Itoa(number)] = nestIn(tableOf(number, 0, x.Slots...), 2, 1)
		nests["Plus "+strconv.Itoa(number)] = nestIn(tableOf(1, number, x.Slots...), 2, 1)
		nests["More in a nest without keys "+strconv.Itoa(number)] = nestIn(tableOf(1, 0, slotsWith(7)...), number, 1)
		nests["Again in a nest without keys "+strconv.Itoa(number)] = nestIn(tableOf(1, 0, slotsWith(7)...), 2, number)
	}
	for _, number := range noKeys {
		if number != free {
			nests["a slot of "+strconv.Itoa(number)] = nestIn(tableOf(1, 0, slotsWith(7, 0, number)...), 2, 1)
		}
	}
	return nests
}

func TestNotNests(t *testing.T) {
	for why, n := range notNests() {
		checkNoNest(t, why, n)
	}
	for why, x := range notValid() {
		checkNoNest(t, why, nestIn(x, 2, 1))
		checkNoNest(t, "twice: "+why, nestIn(x, x.Times, x.Plus))
		checkNoNest(t, "by the second homes: "+why, nestIn(tableOf(1, 0, x.Slots...), x.Times, x.Plus))
	}
}

func TestNestsOfNoKeys(t *testing.T) {
	for _, n := range textedNests() {
		for _, number := range noKeys {
			checkHomes(t, n, number, -1, -1)
			checkFoundAt(t, n, number, -1, impl.Nest{})
			checkPush(t, n, number, impl.Nest{}, nil)
			for _, keys := range [][]int{{number}, {number, 2}, {2, number}, {2, number, 9}, {number, number}} {
				checkPushAll(t, n, keys, impl.Nest{})
			}
		}
	}
}

func TestPushListsOfAllLengths(t *testing.T) {
	n := nestBy(2, 1, "1+0:0 . . . 5 12 .")
	for length := range 130 {
		// Keys that the nest has, so that only the length of the list can matter.
		want := n
		if length > 100 {
			want = impl.Nest{}
		}
		checkPushAll(t, n, slices.Repeat([]int{12}, length), want)
	}
	checkPushAll(t, n, make([]int, 1<<20), impl.Nest{})
	checkPushAll(t, nestBy(0, 0, "0+0:."), slices.Repeat([]int{5}, 101), impl.Nest{})
	checkPushAll(t, nestBy(0, 0, "0+0:."), slices.Repeat([]int{5}, 100), nestBy(0, 0, "0+0:5"))
}

// callPushing calls every function of the chapter that is handed a nest.
func callPushing(n impl.Nest) {
	impl.NestValid(n)
	impl.FormatNest(n)
	for number := -3; number <= 101; number++ {
		impl.HomesOf(n, number)
		impl.FindNest(n, number)
		impl.PushKey(n, number)
		impl.PushesBy(n, number)
		impl.PullKey(n, number)
	}
	for _, keys := range putLists {
		impl.PushAll(n, keys)
	}
}

// checkNestsStay looks at the memory of the nests that are handed on, also beyond their length.
func checkNestsStay(t *testing.T, call func(impl.Nest)) {
	checkStay(t, func(x impl.Table) {
		call(nestIn(x, 2, 1))
		call(nestIn(x, x.Times, x.Plus))
	})
	// These are nests in which keys are in each other's way.
	for _, n := range textedNests() {
		memory := append(slices.Clone(n.Slots), 77, 78)
		before := slices.Clone(memory)
		n.Slots = memory[:len(n.Slots)]
		call(n)
		if !slices.Equal(memory, before) {
			t.Errorf("the slots became %v", memory)
		}
	}
}

func TestTablesStayInPushing(t *testing.T) {
	checkNestsStay(t, callPushing)
}

func TestListsStayInPushing(t *testing.T) {
	memory := []int{12, 5, 12, 0, 98, 99}
	before := slices.Clone(memory)
	impl.PushAll(nestBy(2, 1, "1+0:. . . . . . ."), memory[:4])
	impl.PushAll(nestBy(2, 1, "1+0:. . . . 5 19 ."), memory[:4])
	if !slices.Equal(memory, before) {
		t.Errorf("the keys became %v", memory)
	}
}

func TestPushingResultsShareNothing(t *testing.T) {
	memory := append(slotsWith(7, 0, free, free, free, 5, 12), 97, 98, 99)
	before := slices.Clone(memory)
	n := nestIn(tableOf(1, 0, memory[:7]...), 2, 1)
	var tables []impl.Table
	keep := func(n impl.Nest, ok bool) {
		t.Helper()
		if !ok {
			t.Errorf("there is no nest")
		}
		tables = append(tables, firstOf(n))
	}
	keep(impl.NewNest(7, 1, 0, 2, 1))
	keep(impl.NewNest(7, 1, 0, 2, 1))
	keep(impl.ParseNest("2+1/1+0:0 . . . 5 12 ."))
	keep(impl.ParseNest("2+1/1+0:0 . . . 5 12 ."))
	keep(impl.PushKey(n, 4))
	keep(impl.PushKey(n, 4))
	keep(impl.PushAll(n, []int{4, 7}))
	// Nothing is pushed here, but the nest is one of its own all the same.
	keep(impl.PushAll(n, nil))
	keep(impl.PushAll(n, []int{5, 12}))
	keep(impl.PullKey(n, 0))
	checkApart(t, tables...)
	one, _ := impl.PushesBy(n, 4)
	two, _ := impl.PushesBy(n, 4)
	spoil(one)
	if !slices.Equal(two, []int{5, 12, 4}) {
		t.Errorf("the pushed keys became %v", two)
	}
	if !slices.Equal(memory, before) {
		t.Errorf("the slots became %v", memory)
	}
}
