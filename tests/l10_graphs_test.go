package tests

import (
	"math/bits"
	"slices"
	"testing"

	"loop.example/opentables/impl"
)

func samePart(a impl.Part, b impl.Part) bool {
	return slices.Equal(a.Slots, b.Slots) && slices.Equal(a.Keys, b.Keys)
}

// A graphed is what the functions of the chapter tell of a nest and a list of keys.
type graphed struct {
	parts                    []impl.Part
	can                      bool
	ways, count, most, rings int
}

// noGraph is what they tell of arguments that are not valid.
var noGraph = graphed{ways: -1, count: -1, most: -1, rings: -1}

// keysOnce returns the different keys of a list, in ascending order.
func keysOnce(keys []int) []int {
	return slices.Compact(slices.Sorted(slices.Values(keys)))
}

// together returns the slots that hang together with one: it goes through the keys until none has one home among them and the other one outside.
func together(n impl.Nest, keys []int, slot int) []int {
	slots := []int{slot}
	for known := 0; known < len(slots); {
		known = len(slots)
		for _, key := range keys {
			first, second := twoHomes(n, key)
			hasFirst, hasSecond := slices.Contains(slots, first), slices.Contains(slots, second)
			if hasFirst && !hasSecond {
				slots = withKey(slots, second)
			}
			if hasSecond && !hasFirst {
				slots = withKey(slots, first)
			}
		}
	}
	return slots
}

func partWith(n impl.Nest, keys []int, slot int) impl.Part {
	p := impl.Part{Slots: together(n, keys, slot)}
	for _, key := range keysOnce(keys) {
		if first, _ := twoHomes(n, key); slices.Contains(p.Slots, first) {
			p.Keys = append(p.Keys, key)
		}
	}
	return p
}

// partsWithKeys meets each part at its first slot.
func partsWithKeys(n impl.Nest, keys []int) []impl.Part {
	var parts []impl.Part
	for slot := range n.Slots {
		if p := partWith(n, keys, slot); p.Slots[0] == slot && len(p.Keys) > 0 {
			parts = append(parts, p)
		}
	}
	return parts
}

// fillings tries all ways to place different keys. It tells for each set of slots, as bits of its index, in how many ways they fill it. If some may be left, those are ways too.
func fillings(n impl.Nest, keys []int, some bool) []int {
	ways := make([]int, 1<<len(n.Slots))
	ways[0] = 1
	for _, key := range keys {
		first, second := twoHomes(n, key)
		homes := slices.Compact([]int{first, second})
		// A set with one slot more has been passed by then, so that no key is placed twice.
		for taken := len(ways) - 1; taken >= 0; taken-- {
			count := ways[taken]
			if count == 0 {
				continue
			}
			for _, slot := range homes {
				if taken>>slot&1 == 0 {
					ways[taken|1<<slot] += count
				}
			}
			if !some {
				ways[taken] = 0
			}
		}
	}
	return ways
}

func allWays(n impl.Nest, keys []int) int {
	sum := 0
	for _, count := range fillings(n, keys, false) {
		sum += count
	}
	return sum
}

func mostOf(n impl.Nest, keys []int) int {
	most := 0
	for taken, count := range fillings(n, keys, true) {
		if count > 0 {
			most = max(most, bits.OnesCount(uint(taken)))
		}
	}
	return most
}

// ringsBy counts the keys whose homes hang together already by the keys ahead of them.
func ringsBy(n impl.Nest, keys []int) int {
	rings := 0
	for i, key := range keys {
		first, second := twoHomes(n, key)
		if slices.Contains(together(n, keys[:i], first), second) {
			rings++
		}
	}
	return rings
}

func graphedOf(n impl.Nest, keys []int) graphed {
	once := keysOnce(keys)
	ways := allWays(n, once)
	g := graphed{parts: partsWithKeys(n, keys), can: ways > 0, ways: ways, count: ways, most: mostOf(n, once), rings: ringsBy(n, once)}
	if len(once) > 8 {
		g.count = -1
	}
	return g
}

// checkGraph compares what the functions that are handed no slot return with what they should.
func checkGraph(t *testing.T, n impl.Nest, keys []int, want graphed, valid bool) {
	t.Helper()
	if got, ok := impl.PartsOf(n, keys); !slices.EqualFunc(got, want.parts, samePart) || ok != valid {
		t.Errorf("PartsOf(%v, %v) = %v, %v, not %v", n, keys, got, ok, want.parts)
	}
	if got := impl.CanPlace(n, keys); got != want.can {
		t.Errorf("CanPlace(%v, %v) = %v", n, keys, got)
	}
	for _, number := range []struct {
		name string
		by   func(impl.Nest, []int) int
		want int
	}{{"WaysToPlace", impl.WaysToPlace, want.ways}, {"CountPlaces", impl.CountPlaces, want.count}, {"MostPlaced", impl.MostPlaced, want.most}, {"RingsOf", impl.RingsOf, want.rings}} {
		if got := number.by(n, keys); got != number.want {
			t.Errorf("%s(%v, %v) = %d, not %d", number.name, n, keys, got, number.want)
		}
	}
}

func checkPartHas(t *testing.T, n impl.Nest, keys []int, slot int, want impl.Part) {
	t.Helper()
	if got, ok := impl.PartHas(n, keys, slot); !samePart(got, want) || ok == (len(want.Slots) == 0) {
		t.Errorf("PartHas(%v, %v, %d) = %v, %v, not %v", n, keys, slot, got, ok, want)
	}
}

// checkByDefinition holds for valid nests and lists of keys, and tells what it found.
func checkByDefinition(t *testing.T, n impl.Nest, keys []int) graphed {
	t.Helper()
	want := graphedOf(n, keys)
	checkGraph(t, n, keys, want, true)
	for slot := range n.Slots {
		checkPartHas(t, n, keys, slot, partWith(n, keys, slot))
	}
	return want
}

// checkNoGraph holds for nests and lists that are not valid.
func checkNoGraph(t *testing.T, n impl.Nest, keys []int) {
	t.Helper()
	checkGraph(t, n, keys, noGraph, false)
	for slot := -1; slot <= 16; slot++ {
		checkPartHas(t, n, keys, slot, impl.Part{})
	}
}

func TestMaxSought(t *testing.T) {
	if impl.MaxSought != 8 {
		t.Errorf("MaxSought = %d", impl.MaxSought)
	}
}

// listsOf returns all lists of up to so many keys, the same ones more than once too.
func listsOf(most int, keys ...int) [][]int {
	lists := [][]int{nil}
	for ahead := lists; most > 0; most-- {
		var longer [][]int
		for _, list := range ahead {
			for _, key := range keys {
				longer = append(longer, append(slices.Clone(list), key))
			}
		}
		lists, ahead = append(lists, longer...), longer
	}
	return lists
}

// TestSmallGraphs goes through all short lists, with second homes that are apart from the first ones, the same, and all one slot.
func TestSmallGraphs(t *testing.T) {
	lists := listsOf(4, 0, 4, 5, 7, 99)
	for size := 1; size <= 5; size++ {
		for _, rule := range [][4]int{{1, 0, 2, 1}, {1, 0, 1, 0}, {1, 0, 1, 1}, {0, 0, 0, 3}, {2, 0, 1, 0}, {1, 3, 0, 2}, {15, 15, 14, 7}} {
			n := nestIn(tableOf(rule[0], rule[1], slotsWith(size)...), rule[2], rule[3])
			for _, keys := range lists {
				checkByDefinition(t, n, keys)
			}
		}
	}
}

// manyLists returns lists of different keys and lengths, up to a few keys more than there are slots.
func manyLists(size int, turn int) [][]int {
	var lists [][]int
	for length := turn % 3; length <= size+3; length += 3 {
		var keys []int
		for i := range length {
			keys = append(keys, (i*37+turn*11)%100)
		}
		lists = append(lists, keys)
	}
	return lists
}

// TestGraphsOfAllSizes goes through nests of all sizes, among them those in which homes of all keys are one slot or the same.
func TestGraphsOfAllSizes(t *testing.T) {
	one, many, none := 0, 0, 0
	for turn, n := range emptyNests() {
		for _, keys := range manyLists(len(n.Slots), turn) {
			want := checkByDefinition(t, n, keys)
			checkGraph(t, n, append(slices.Clone(keys), keys[len(keys)/2:]...), want, true)
			switch {
			case want.ways == 1:
				one++
			case want.ways > 1:
				many++
			default:
				none++
			}
		}
	}
	if one < 200 || many < 500 || none < 500 {
		t.Errorf("there was one way for %d lists, more for %d, and none for %d", one, many, none)
	}
}

// twoRings reports whether some part has more than one ring.
func twoRings(parts []impl.Part) bool {
	return slices.ContainsFunc(parts, func(p impl.Part) bool { return len(p.Keys)-len(p.Slots)+1 > 1 })
}

// TestTwoHomesAreEnough holds the promise itself: keys can be placed, and be pushed into free slots, just if no part has two rings.
func TestTwoHomesAreEnough(t *testing.T) {
	enough, short := 0, 0
	for turn, n := range emptyNests() {
		for _, keys := range manyLists(len(n.Slots), turn+1) {
			parts, ok := impl.PartsOf(n, keys)
			if !ok {
				t.Fatalf("PartsOf(%v, %v) = false", n, keys)
			}
			want := !twoRings(parts)
			if got := haveRoom(n, keys, map[int]bool{}); got != want {
				t.Fatalf("%v have room in %v: %v", keys, n, got)
			}
			if _, got := impl.PushAll(n, keys); got != want {
				t.Fatalf("PushAll(%v, %v) = %v", n, keys, got)
			}
			if got := impl.CanPlace(n, keys); got != want {
				t.Fatalf("CanPlace(%v, %v) = %v", n, keys, got)
			}
			if got := impl.WaysToPlace(n, keys); got > 0 != want {
				t.Fatalf("WaysToPlace(%v, %v) = %d", n, keys, got)
			}
			if got := impl.MostPlaced(n, keys); got == len(keys) != want {
				t.Fatalf("MostPlaced(%v, %v) = %d", n, keys, got)
			}
			if want {
				enough++
			} else {
				short++
			}
		}
	}
	if enough < 500 || short < 500 {
		t.Errorf("two homes were enough for %d lists, and not for %d", enough, short)
	}
}

// TestHeldKeysDoNotMatter holds for nests with keys: they are none of the list, and in no one's way.
func TestHeldKeysDoNotMatter(t *testing.T) {
	for _, n := range textedNests() {
		for _, keys := range slices.Concat(putLists, listsOf(2, 0, 5, 12, 19, 2, 9, 16)) {
			checkByDefinition(t, n, keys)
		}
	}
	held := 0
	for size := 1; size <= 4; size++ {
		for _, x := range smallTables(size, 1, 0, 0, 4, 5, 7, 99) {
			n := nestIn(x, 2, 1)
			if !validNest(n) {
				continue
			}
			for _, keys := range listsOf(2, 0, 5, 6, 99) {
				checkByDefinition(t, n, keys)
			}
			held++
		}
	}
	if held < 50 {
		t.Errorf("only %d nests were valid", held)
	}
}

func TestGraphExamples(t *testing.T) {
	part := func(slots []int, keys ...int) impl.Part { return impl.Part{Slots: slots, Keys: keys} }
	for _, c := range []struct {
		more, again int
		text        string
		keys        []int
		want        graphed
	}{
		{2, 1, "1+0:. . . . . . .", []int{5, 12}, graphed{[]impl.Part{part([]int{4, 5}, 5, 12)}, true, 2, 2, 2, 1}},
		{2, 1, "1+0:. . . . . . .", []int{12, 5}, graphed{[]impl.Part{part([]int{4, 5}, 5, 12)}, true, 2, 2, 2, 1}},
		{2, 1, "1+0:0 . . . 5 12 .", []int{19, 12}, graphed{[]impl.Part{part([]int{4, 5}, 12, 19)}, true, 2, 2, 2, 1}},
		// No keys can be placed in one way.
		{2, 1, "1+0:. . . . . . .", nil, graphed{nil, true, 1, 1, 0, 0}},
		// Keys with the same homes, two of which are enough.
		{2, 1, "1+0:. . . . . . .", []int{19, 5, 12}, graphed{[]impl.Part{part([]int{4, 5}, 5, 12, 19)}, false, 0, 0, 2, 2}},
		// The first home of each is the second one of the other.
		{1, 1, "1+0:. .", []int{1, 0}, graphed{[]impl.Part{part([]int{0, 1}, 0, 1)}, true, 2, 2, 2, 1}},
		{0, 3, "0+1:. . . .", []int{8, 3, 99}, graphed{[]impl.Part{part([]int{1, 3}, 3, 8, 99)}, false, 0, 0, 2, 2}},
		// Keys whose homes are one slot: alone, with one more there, and with keys that have another home.
		{2, 1, "1+0:. . . . . . .", []int{6}, graphed{[]impl.Part{part([]int{6}, 6)}, true, 1, 1, 1, 1}},
		{2, 1, "1+0:. . . . . . .", []int{13, 6}, graphed{[]impl.Part{part([]int{6}, 6, 13)}, false, 0, 0, 1, 2}},
		{1, 0, "2+0:. . . . . .", []int{3, 6}, graphed{[]impl.Part{part([]int{0, 3}, 3, 6)}, true, 1, 1, 2, 1}},
		{1, 0, "2+0:. . . . . .", []int{0, 3, 1}, graphed{[]impl.Part{part([]int{0, 3}, 0, 3), part([]int{1, 2}, 1)}, true, 2, 2, 3, 1}},
		{1, 0, "2+0:. . . . . .", []int{0, 3, 6}, graphed{[]impl.Part{part([]int{0, 3}, 0, 3, 6)}, false, 0, 0, 2, 2}},
		{1, 0, "1+0:. . .", []int{2, 1, 0}, graphed{[]impl.Part{part([]int{0}, 0), part([]int{1}, 1), part([]int{2}, 2)}, true, 1, 1, 3, 3}},
		{0, 2, "0+2:. . . .", []int{8, 3}, graphed{[]impl.Part{part([]int{2}, 3, 8)}, false, 0, 0, 1, 2}},
		{15, 15, "0+0:99", []int{0}, graphed{[]impl.Part{part([]int{0}, 0)}, true, 1, 1, 1, 1}},
		// Each slot of a part without a ring can be the one that is left over.
		{2, 1, "1+0:. . . . . . .", []int{0, 1}, graphed{[]impl.Part{part([]int{0, 1, 3}, 0, 1)}, true, 3, 3, 2, 0}},
		// The last key ties two parts.
		{1, 1, "1+0:. . . . .", []int{3, 0}, graphed{[]impl.Part{part([]int{0, 1}, 0), part([]int{3, 4}, 3)}, true, 4, 4, 2, 0}},
		{1, 1, "1+0:. . . . .", []int{3, 0, 2}, graphed{[]impl.Part{part([]int{0, 1}, 0), part([]int{2, 3, 4}, 2, 3)}, true, 6, 6, 3, 0}},
		{1, 1, "1+0:. . . . .", []int{3, 0, 4}, graphed{[]impl.Part{part([]int{0, 1, 3, 4}, 0, 3, 4)}, true, 4, 4, 3, 0}},
		// The order of parts is that of their first slots, not of their first keys.
		{2, 1, "1+0:. . . . . . .", []int{5, 7, 13}, graphed{[]impl.Part{part([]int{0, 1}, 7), part([]int{4, 5}, 5), part([]int{6}, 13)}, true, 4, 4, 3, 1}},
		// A key that stands twice is one.
		{2, 1, "1+0:. . . . . . .", []int{4, 4}, graphed{[]impl.Part{part([]int{2, 4}, 4)}, true, 2, 2, 1, 0}},
		{2, 1, "1+0:. . . . . . .", []int{6, 5, 6, 12, 5}, graphed{[]impl.Part{part([]int{4, 5}, 5, 12), part([]int{6}, 6)}, true, 2, 2, 3, 2}},
		// Some parts have too many keys, and others have room.
		{2, 1, "1+0:. . . . . . .", []int{5, 12, 19, 26, 0, 6, 13, 20}, graphed{[]impl.Part{part([]int{0, 1}, 0), part([]int{4, 5}, 5, 12, 19, 26), part([]int{6}, 6, 13, 20)}, false, 0, 0, 4, 6}},
	} {
		checkGraph(t, nestBy(c.more, c.again, c.text), c.keys, c.want, true)
	}
}

// keysUpTo returns so many keys from 0 on.
func keysUpTo(count int) []int {
	var keys []int
	for key := range count {
		keys = append(keys, key)
	}
	return keys
}

// TestManyKeysInGraphs counts around MaxSought different keys, in one large part and in many small ones.
func TestManyKeysInGraphs(t *testing.T) {
	ring := nestIn(tableOf(1, 0, slotsWith(16)...), 1, 1)
	pairs := nestIn(tableOf(1, 0, slotsWith(16)...), 1, 8)
	for _, c := range []struct {
		n                               impl.Nest
		keys                            int
		ways, count, most, rings, parts int
	}{
		{ring, 7, 8, 8, 7, 0, 1},
		{ring, 8, 9, 9, 8, 0, 1},
		{ring, 9, 10, -1, 9, 0, 1},
		{ring, 15, 16, -1, 15, 0, 1},
		{ring, 16, 2, -1, 16, 1, 1},
		{ring, 17, 0, -1, 16, 2, 1},
		{ring, 100, 0, -1, 16, 85, 1},
		{pairs, 7, 128, 128, 7, 0, 7},
		{pairs, 8, 256, 256, 8, 0, 8},
		{pairs, 9, 256, -1, 9, 1, 8},
		{pairs, 16, 256, -1, 16, 8, 8},
		{pairs, 17, 0, -1, 16, 9, 8},
	} {
		keys := keysUpTo(c.keys)
		want := graphed{parts: partsWithKeys(c.n, keys), can: c.ways > 0, ways: c.ways, count: c.count, most: c.most, rings: c.rings}
		if len(want.parts) != c.parts {
			t.Errorf("%d keys make the parts %v", c.keys, want.parts)
		}
		checkGraph(t, c.n, keys, want, true)
		// The same keys in another order, and some of them twice.
		slices.Reverse(keys)
		checkGraph(t, c.n, keys, want, true)
		if c.keys <= 50 {
			checkGraph(t, c.n, slices.Concat(keys, keysUpTo(c.keys)), want, true)
		}
	}
}

func TestPartHasExamples(t *testing.T) {
	n := nestBy(2, 1, "1+0:. . . . . . .")
	keys := []int{13, 1, 0}
	for slot, want := range []impl.Part{
		{Slots: []int{0, 1, 3}, Keys: []int{0, 1}},
		{Slots: []int{0, 1, 3}, Keys: []int{0, 1}},
		// No key has this slot as a home.
		{Slots: []int{2}},
		{Slots: []int{0, 1, 3}, Keys: []int{0, 1}},
		{Slots: []int{4}},
		{Slots: []int{5}},
		// Here both homes of a key are this slot.
		{Slots: []int{6}, Keys: []int{13}},
	} {
		checkPartHas(t, n, keys, slot, want)
		checkPartHas(t, n, nil, slot, impl.Part{Slots: []int{slot}})
	}
}

func TestGraphsOfNoSlot(t *testing.T) {
	for _, n := range emptyNests() {
		for _, slot := range noHomes(len(n.Slots)) {
			checkPartHas(t, n, nil, slot, impl.Part{})
			checkPartHas(t, n, []int{0, 1}, slot, impl.Part{})
		}
	}
}

func TestGraphsOfNoNests(t *testing.T) {
	check := func(n impl.Nest) {
		t.Helper()
		for _, keys := range putLists {
			checkNoGraph(t, n, keys)
		}
	}
	for _, n := range notNests() {
		check(n)
	}
	for _, x := range notValid() {
		check(nestIn(x, 2, 1))
		check(nestIn(tableOf(1, 0, x.Slots...), x.Times, x.Plus))
	}
}

func TestGraphsOfNoKeys(t *testing.T) {
	for _, n := range textedNests() {
		for _, number := range noKeys {
			for _, keys := range [][]int{{number}, {number, 2}, {2, number}, {2, number, 9}, {number, number}, append(keysUpTo(9), number)} {
				checkNoGraph(t, n, keys)
			}
		}
	}
}

func TestGraphsOfListsOfAllLengths(t *testing.T) {
	n := nestBy(2, 1, "1+0:0 . . . 5 12 .")
	for length := range 130 {
		keys := slices.Repeat([]int{12}, length)
		if length > 100 {
			checkNoGraph(t, n, keys)
			continue
		}
		checkByDefinition(t, n, keys)
	}
	checkNoGraph(t, n, make([]int, 1<<20))
	checkByDefinition(t, n, keysUpTo(100))
	checkNoGraph(t, n, append(keysUpTo(100), 0))
}

// callGraphs calls every function of the chapter.
func callGraphs(n impl.Nest, keys []int) {
	impl.PartsOf(n, keys)
	for slot := -1; slot <= 17; slot++ {
		impl.PartHas(n, keys, slot)
	}
	impl.CanPlace(n, keys)
	impl.WaysToPlace(n, keys)
	impl.CountPlaces(n, keys)
	impl.MostPlaced(n, keys)
	impl.RingsOf(n, keys)
}

func TestTablesStayInGraphs(t *testing.T) {
	checkNestsStay(t, func(n impl.Nest) {
		for _, keys := range putLists {
			callGraphs(n, keys)
		}
	})
}

func TestListsStayInGraphs(t *testing.T) {
	memory := []int{12, 5, 12, 0, 98, 99}
	before := slices.Clone(memory)
	callGraphs(nestBy(2, 1, "1+0:. . . . . . ."), memory[:4])
	if !slices.Equal(memory, before) {
		t.Errorf("the keys became %v", memory)
	}
}

// TestPartsShareNothing spoils each slice of some parts in turn, which must leave the others and the arguments as they are.
func TestPartsShareNothing(t *testing.T) {
	memory := append(slotsWith(7, 0, free, free, free, 5, 12), 97, 98)
	n := nestIn(tableOf(1, 0, memory[:7]...), 2, 1)
	keys := []int{0, 1, 5, 6, 12, 77}
	lists := [][]int{memory, keys}
	take := func(parts ...impl.Part) {
		for _, p := range parts {
			lists = append(lists, p.Slots, p.Keys)
		}
	}
	for range 2 {
		parts, _ := impl.PartsOf(n, keys[:5])
		has, _ := impl.PartHas(n, keys[:5], 1)
		take(append(parts, has)...)
	}
	if len(lists) != 2+2*2*4 {
		t.Fatalf("the lists are %v", lists)
	}
	for i, list := range lists {
		var kept [][]int
		for _, other := range lists {
			kept = append(kept, slices.Clone(other))
		}
		spoil(list)
		for other := range lists {
			if other != i && !slices.Equal(lists[other], kept[other]) {
				t.Errorf("a list became %v", lists[other])
			}
		}
		copy(list, kept[i])
	}
}
