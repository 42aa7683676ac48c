package tests

import (
	"math"
	"runtime"
	"slices"
	"strconv"
	"testing"
	"time"

	"loop.example/opentables/impl"
)

func isZeroMove(m impl.Move) bool {
	return isZero(m.Old) && isZero(m.New) && m.Next == 0
}

func sameMove(a impl.Move, b impl.Move) bool {
	return sameFields(a.Old, b.Old) && sameFields(a.New, b.New) && a.Next == b.Next
}

// moveText writes a move without FormatMove, which is itself under test.
func moveText(m impl.Move) string {
	if isZeroMove(m) {
		return ""
	}
	return impl.FormatTable(m.Old) + " > " + impl.FormatTable(m.New) + " at " + strconv.Itoa(m.Next)
}

func moveOf(from string, to string, next int) impl.Move {
	x, _ := impl.ParseTable(from)
	y, _ := impl.ParseTable(to)
	return impl.Move{Old: x, New: y, Next: next}
}

// roomIn counts the slots without keys.
func roomIn(x impl.Table) int {
	return len(x.Slots) - len(keysOf(x))
}

// validMove holds a move of valid tables against the definition.
func validMove(m impl.Move) bool {
	if m.Next < 0 || m.Next > len(m.Old.Slots) || m.Old.Times != m.New.Times || m.Old.Plus != m.New.Plus {
		return false
	}
	for slot, holds := range m.Old.Slots {
		if holds >= 0 && (slot < m.Next || slices.Contains(m.New.Slots, holds)) {
			return false
		}
	}
	return sound(m.Old) && sound(m.New) && len(keysOf(m.Old)) <= roomIn(m.New)
}

// steppedFrom lets one slot of a valid move go over by the rows of slots alone. There must be one.
func steppedFrom(m impl.Move) impl.Move {
	if key := m.Old.Slots[m.Next]; key >= 0 {
		m.New = holding(m.New, placeOf(m.New, key), key)
		m.Old = holding(m.Old, m.Next, tomb)
	}
	m.Next++
	return m
}

func endOf(m impl.Move) impl.Table {
	for m.Next < len(m.Old.Slots) {
		m = steppedFrom(m)
	}
	return m.New
}

// foundIn reads off the slots of a valid move where a key is: no key is lost there.
func foundIn(m impl.Move, key int) (string, int) {
	if slot := slices.Index(m.New.Slots, key); slot >= 0 {
		return "new", slot
	}
	if slot := slices.Index(m.Old.Slots, key); slot >= 0 {
		return "old", slot
	}
	return "", -1
}

// putTo puts a key into a valid move, if there is none yet and room for it.
func putTo(m impl.Move, key int) impl.Move {
	if _, slot := foundIn(m, key); slot >= 0 || len(keysOf(m.Old)) >= roomIn(m.New) {
		return impl.Move{}
	}
	m.New = holding(m.New, placeOf(m.New, key), key)
	return m
}

// dropFrom drops a key from a valid move, if it is there.
func dropFrom(m impl.Move, key int) impl.Move {
	switch where, slot := foundIn(m, key); where {
	case "new":
		m.New = holding(m.New, slot, tomb)
	case "old":
		m.Old = holding(m.Old, slot, tomb)
	default:
		return impl.Move{}
	}
	return m
}

// checkNoMove holds for moves that are not valid.
func checkNoMove(t *testing.T, why string, m impl.Move) {
	t.Helper()
	if impl.MoveValid(m) {
		t.Errorf("%s: MoveValid(%v) = true", why, m)
	}
	if got := impl.FormatMove(m); got != "" {
		t.Errorf("%s: FormatMove(%v) = %q", why, m, got)
	}
	if got, ok := impl.StepMove(m); !isZeroMove(got) || ok {
		t.Errorf("%s: StepMove(%v) = %v, %v", why, m, got, ok)
	}
	if got, ok := impl.EndMove(m); !isZero(got) || ok {
		t.Errorf("%s: EndMove(%v) = %v, %v", why, m, got, ok)
	}
	for _, number := range append([]int{0, 1, 4, 5, 7, 50, 99}, noKeys...) {
		checkKeyInMove(t, m, number, impl.Move{}, impl.Move{}, "", -1)
	}
}

// checkKeyInMove compares what the functions that are handed a key return with what they should.
func checkKeyInMove(t *testing.T, m impl.Move, key int, put impl.Move, drop impl.Move, where string, slot int) {
	t.Helper()
	if got, at, ok := impl.FindIn(m, key); got != where || at != slot || ok != (slot >= 0) {
		t.Errorf("FindIn(%v, %d) = %q, %d, %v, not %q, %d", m, key, got, at, ok, where, slot)
	}
	if got, ok := impl.PutIn(m, key); !sameMove(got, put) || ok == isZeroMove(put) {
		t.Errorf("PutIn(%v, %d) = %v, %v, not %v", m, key, got, ok, put)
	}
	if got, ok := impl.DropIn(m, key); !sameMove(got, drop) || ok == isZeroMove(drop) {
		t.Errorf("DropIn(%v, %d) = %v, %v, not %v", m, key, got, ok, drop)
	}
}

// checkMove compares all functions with the definition, for a move of valid tables.
func checkMove(t *testing.T, m impl.Move, keys []int) {
	t.Helper()
	if !validMove(m) {
		checkNoMove(t, "by the definition", m)
		return
	}
	if !impl.MoveValid(m) {
		t.Errorf("MoveValid(%v) = false", m)
	}
	if got, want := impl.FormatMove(m), moveText(m); got != want {
		t.Errorf("FormatMove(%v) = %q, not %q", m, got, want)
	}
	var next impl.Move
	if m.Next < len(m.Old.Slots) {
		next = steppedFrom(m)
	}
	if got, ok := impl.StepMove(m); !sameMove(got, next) || ok == isZeroMove(next) {
		t.Errorf("StepMove(%v) = %v, %v, not %v", m, got, ok, next)
	}
	if got, ok := impl.EndMove(m); !sameFields(got, endOf(m)) || !ok {
		t.Errorf("EndMove(%v) = %v, %v, not %v", m, got, ok, endOf(m))
	}
	for _, key := range keys {
		where, slot := foundIn(m, key)
		checkKeyInMove(t, m, key, putTo(m, key), dropFrom(m, key), where, slot)
	}
}

// TestSmallMoves goes through all moves between small tables, valid ones and others.
func TestSmallMoves(t *testing.T) {
	for _, rule := range [][2]int{{0, 1}, {1, 0}} {
		var tables []impl.Table
		for size := 1; size <= 3; size++ {
			tables = append(tables, smallTables(size, rule[0], rule[1], 0, 4, 5)...)
		}
		for _, x := range tables {
			for _, y := range tables {
				for next := -1; next <= len(x.Slots)+1; next++ {
					checkMove(t, impl.Move{Old: x, New: y, Next: next}, []int{0, 4, 5, 7})
				}
				if t.Failed() {
					return
				}
			}
		}
	}
}

// startable are all kinds of tables, sound ones and others.
func startable() []impl.Table {
	return slices.Concat(smallTables(3, 1, 0, 0, 4, 5), largeTables(), filledTables(), turnedRings())
}

func TestStartsOfManyMoves(t *testing.T) {
	for _, x := range startable() {
		for size := 1; size <= 16; size++ {
			var want impl.Move
			if sound(x) && len(keysOf(x)) <= size {
				want = impl.Move{Old: x, New: tableOf(x.Times, x.Plus, slotsWith(size)...)}
			}
			if got, ok := impl.StartMove(x, size); !sameMove(got, want) || ok == isZeroMove(want) {
				t.Fatalf("StartMove(%v, %d) = %v, %v, not %v", x, size, got, ok, want)
			}
		}
	}
}

// TestStepsOfManyMoves lets tables of all sizes go over to smaller and larger ones, slot by slot.
func TestStepsOfManyMoves(t *testing.T) {
	for i, x := range startable() {
		// Each fifth one is enough: there are many.
		if i%5 > 0 {
			continue
		}
		for _, size := range []int{len(keysOf(x)), len(x.Slots), 16 - i/5%5} {
			m, ok := impl.StartMove(x, size)
			if !ok {
				continue
			}
			for steps := 0; ok; steps++ {
				if m.Next != steps {
					t.Fatalf("of %v, %d steps have made %v", x, steps, m)
				}
				checkMove(t, m, []int{0, 5, 38, 50})
				m, ok = impl.StepMove(m)
			}
			if t.Failed() {
				return
			}
		}
	}
}

// checkFound holds for a move with these keys: all are found where a slot holds them, and no others.
func checkFound(t *testing.T, m impl.Move, keys []int) {
	t.Helper()
	for key := range 100 {
		where, slot, ok := impl.FindIn(m, key)
		if ok != slices.Contains(keys, key) {
			t.Fatalf("%d in %v: found in %q, %d, %v", key, m, where, slot, ok)
		}
		if ok && (where == "new" && m.New.Slots[slot] != key || where == "old" && m.Old.Slots[slot] != key) {
			t.Fatalf("%d in %v is not in %q, %d", key, m, where, slot)
		}
	}
	end, ok := impl.EndMove(m)
	if after, _ := impl.KeysIn(end); !ok || !impl.IsSound(end) || !slices.Equal(after, slices.Sorted(slices.Values(keys))) {
		t.Fatalf("%v ends as %v, %v, with other keys than %v", m, end, ok, keys)
	}
}

// TestKeysAreFoundWhileTablesGrow holds the promise itself: keys are put and dropped between the steps.
func TestKeysAreFoundWhileTablesGrow(t *testing.T) {
	puts, drops, refused := 0, 0, 0
	for i, x := range slices.Concat(largeTables(), filledTables()) {
		if i%5 > 0 {
			continue
		}
		keys := keysOf(x)
		m, ok := impl.StartMove(x, max(1, len(keys)+i%4))
		for turn := i; ok; turn++ {
			checkFound(t, m, keys)
			if key := turn * 29 % 100; turn%3 > 0 && !slices.Contains(keys, key) {
				more, fine := impl.PutIn(m, key)
				if room := roomIn(m.New) > len(keysOf(m.Old)); fine != room {
					t.Fatalf("PutIn(%v, %d) = %v, %v", m, key, more, fine)
				}
				if fine {
					m, keys, puts = more, append(keys, key), puts+1
				} else {
					refused++
				}
				checkFound(t, m, keys)
			}
			if turn%4 < 2 && len(keys) > 0 {
				key := keys[turn%len(keys)]
				if m, ok = impl.DropIn(m, key); !ok {
					t.Fatalf("%d can't be dropped", key)
				}
				keys, drops = withoutKey(keys, key), drops+1
				checkFound(t, m, keys)
			}
			m, ok = impl.StepMove(m)
		}
	}
	if puts < 200 || drops < 200 || refused < 200 {
		t.Errorf("%d keys were put, %d dropped and %d refused", puts, drops, refused)
	}
}

func TestStartExamples(t *testing.T) {
	for _, c := range []struct {
		text string
		size int
		want string
	}{
		{"1+0:3 1 .", 5, "1+0:3 1 . > 1+0:. . . . . at 0"},
		{"1+0:3 1 .", 3, "1+0:3 1 . > 1+0:. . . at 0"},
		{"1+0:3 1 .", 2, "1+0:3 1 . > 1+0:. . at 0"},
		{"1+0:3 1 .", 1, ""},
		{"1+0:3 1 .", 16, "1+0:3 1 . > 1+0:. . . . . . . . . . . . . . . . at 0"},
		{"1+0:3 1 .", 17, ""},
		{"1+0:3 1 .", 0, ""},
		{"1+0:3 1 .", -5, ""},
		// Tombs need no slots: only keys go over.
		{"2+3:x x . x", 1, "2+3:x x . x > 2+3:. at 0"},
		{"2+3:x x 7 x", 1, "2+3:x x 7 x > 2+3:. at 0"},
		{"0+0:.", 1, "0+0:. > 0+0:. at 0"},
		{"15+15:99", 2, "15+15:99 > 15+15:. . at 0"},
		// A full ring.
		{"1+0:1 2 0", 3, "1+0:1 2 0 > 1+0:. . . at 0"},
		{"1+0:1 2 0", 2, ""},
		// A key is lost.
		{"1+0:. 0 . 7", 8, ""},
		{"1+0:. 0", 2, ""},
	} {
		x, _ := impl.ParseTable(c.text)
		if got, ok := impl.StartMove(x, c.size); moveText(got) != c.want || ok != (c.want != "") {
			t.Errorf("StartMove(%s, %d) = %v, %v", c.text, c.size, got, ok)
		}
	}
}

func TestMoveExamples(t *testing.T) {
	for _, c := range []struct {
		from, to string
		steps    []string
	}{
		{"1+0:3 1 .", "1+0:. . . . .", []string{
			"1+0:x 1 . > 1+0:. . . 3 . at 1", "1+0:x x . > 1+0:. 1 . 3 . at 2", "1+0:x x . > 1+0:. 1 . 3 . at 3"}},
		// Tables that become smaller.
		{"1+0:4 1 . 3", "1+0:. . .", []string{
			"1+0:x 1 . 3 > 1+0:. 4 . at 1", "1+0:x x . 3 > 1+0:. 4 1 at 2", "1+0:x x . 3 > 1+0:. 4 1 at 3", "1+0:x x . x > 1+0:3 4 1 at 4"}},
		{"1+0:. . 2 .", "1+0:.", []string{
			"1+0:. . 2 . > 1+0:. at 1", "1+0:. . 2 . > 1+0:. at 2", "1+0:. . x . > 1+0:2 at 3", "1+0:. . x . > 1+0:2 at 4"}},
		// A table of the same size: the keys lie as their old slots come, and not as before.
		{"1+0:3 0 .", "1+0:. . .", []string{"1+0:x 0 . > 1+0:3 . . at 1", "1+0:x x . > 1+0:3 0 . at 2", "1+0:x x . > 1+0:3 0 . at 3"}},
		{"1+0:1 2 0", "1+0:. . .", []string{"1+0:x 2 0 > 1+0:. 1 . at 1", "1+0:x x 0 > 1+0:. 1 2 at 2", "1+0:x x x > 1+0:0 1 2 at 3"}},
		// Tombs stay where they are, and do not go over.
		{"1+0:x x 0 x .", "1+0:. . .", []string{
			"1+0:x x 0 x . > 1+0:. . . at 1", "1+0:x x 0 x . > 1+0:. . . at 2", "1+0:x x x x . > 1+0:0 . . at 3", "1+0:x x x x . > 1+0:0 . . at 4", "1+0:x x x x . > 1+0:0 . . at 5"}},
		{"0+0:x", "0+0:. .", []string{"0+0:x > 0+0:. . at 1"}},
		{"0+0:.", "0+0:.", []string{"0+0:. > 0+0:. at 1"}},
		{"15+15:99", "15+15:. .", []string{"15+15:x > 15+15:99 . at 1"}},
		// New has keys and tombs of its own: a tomb is a place for a key.
		{"1+0:0 3", "1+0:6 x .", []string{"1+0:x 3 > 1+0:6 0 . at 1", "1+0:x x > 1+0:6 0 3 at 2"}},
		{"0+1:5 x x", "0+1:x x", []string{"0+1:x x x > 0+1:x 5 at 1", "0+1:x x x > 0+1:x 5 at 2", "0+1:x x x > 0+1:x 5 at 3"}},
		{"1+0:0", "1+0:x 1 2 4 5", []string{"1+0:x > 1+0:0 1 2 4 5 at 1"}},
		// Around the end of the ring.
		{"1+0:5 . . 3 4", "1+0:6 . . . . 11", []string{
			"1+0:x . . 3 4 > 1+0:6 5 . . . 11 at 1", "1+0:x . . 3 4 > 1+0:6 5 . . . 11 at 2", "1+0:x . . 3 4 > 1+0:6 5 . . . 11 at 3",
			"1+0:x . . x 4 > 1+0:6 5 . 3 . 11 at 4", "1+0:x . . x x > 1+0:6 5 . 3 4 11 at 5"}},
	} {
		m := moveOf(c.from, c.to, 0)
		end, fine := impl.EndMove(m)
		for i, want := range c.steps {
			var ok bool
			if m, ok = impl.StepMove(m); moveText(m) != want || impl.FormatMove(m) != want || !ok {
				t.Fatalf("%s to %s: step %d = %v, %v, not %s", c.from, c.to, i, m, ok, want)
			}
			if got, ok := impl.EndMove(m); !sameFields(got, end) || !ok {
				t.Errorf("%s to %s: EndMove behind step %d = %v, %v, not %v", c.from, c.to, i, got, ok, end)
			}
		}
		if !fine || !sameFields(end, m.New) {
			t.Errorf("%s to %s: EndMove = %v, %v, not %v", c.from, c.to, end, fine, m.New)
		}
		if got, ok := impl.StepMove(m); !isZeroMove(got) || ok {
			t.Errorf("%s to %s: StepMove at the end = %v, %v", c.from, c.to, got, ok)
		}
	}
}

// A change is a key that is put into a move or dropped from it, with what the move becomes, and how it ends then.
type change struct {
	from, to     string
	next         int
	key          int
	becomes, end string
}

func checkChanges(t *testing.T, name string, by func(impl.Move, int) (impl.Move, bool), changes []change) {
	t.Helper()
	for _, c := range changes {
		m := moveOf(c.from, c.to, c.next)
		got, ok := by(m, c.key)
		if moveText(got) != c.becomes || ok != (c.becomes != "") || !validMove(m) {
			t.Errorf("%s(%v, %d) = %v, %v, not %s", name, m, c.key, got, ok, c.becomes)
		}
		if !ok {
			got = m
		}
		if end, ok := impl.EndMove(got); impl.FormatTable(end) != c.end || !ok {
			t.Errorf("%v ends as %v, %v, not %s", got, end, ok, c.end)
		}
	}
}

func TestPutInExamples(t *testing.T) {
	checkChanges(t, "PutIn", impl.PutIn, []change{
		// A key that is put takes a slot into which another one would have gone over.
		{"1+0:x 1 . 3", "1+0:. . . . 4", 1, 6, "1+0:x 1 . 3 > 1+0:. 6 . . 4 at 1", "1+0:. 6 1 3 4"},
		{"1+0:4 1 . 3", "1+0:. . . . .", 0, 9, "1+0:4 1 . 3 > 1+0:. . . . 9 at 0", "1+0:4 1 . 3 9"},
		{"1+0:x x . 3", "1+0:. 1 . . 4", 3, 50, "1+0:x x . 3 > 1+0:50 1 . . 4 at 3", "1+0:50 1 . 3 4"},
		// Once all slots have gone over, too, and where Old has no keys.
		{"1+0:x x . x", "1+0:. 1 . 3 4", 4, 6, "1+0:x x . x > 1+0:. 1 6 3 4 at 4", "1+0:. 1 6 3 4"},
		{"1+0:. x", "1+0:.", 0, 9, "1+0:. x > 1+0:9 at 0", "1+0:9"},
		{"1+0:. x", "1+0:x", 1, 9, "1+0:. x > 1+0:9 at 1", "1+0:9"},
		// The first tomb visited is used again.
		{"1+0:0", "1+0:x 8 . 3", 0, 4, "1+0:0 > 1+0:4 8 . 3 at 0", "1+0:4 8 0 3"},
		{"1+0:0", "1+0:x x 5", 0, 3, "1+0:0 > 1+0:3 x 5 at 0", "1+0:3 0 5"},
		// Without the last slot New has no room for the keys of Old.
		{"1+0:4 1 . 3", "1+0:. . .", 0, 0, "", "1+0:3 4 1"},
		{"1+0:4 1 . 3", "1+0:. . . .", 0, 0, "1+0:4 1 . 3 > 1+0:0 . . . at 0", "1+0:0 4 1 3"},
		{"1+0:4 1 . 3", "1+0:0 . . .", 0, 8, "", "1+0:0 4 1 3"},
		{"1+0:x 1 . 3", "1+0:. 4 .", 1, 0, "", "1+0:3 4 1"},
		{"1+0:0", "1+0:x", 0, 3, "", "1+0:0"},
		{"1+0:0", "1+0:x 4 .", 0, 3, "1+0:0 > 1+0:3 4 . at 0", "1+0:3 4 0"},
		// New is full: there is no place.
		{"1+0:x", "1+0:4", 1, 9, "", "1+0:4"},
		{"1+0:. x", "1+0:1 2 0", 0, 9, "", "1+0:1 2 0"},
		// The key is found: in Old, where it has not yet gone over, or in New.
		{"1+0:4 1 . 3", "1+0:. . . . .", 0, 3, "", "1+0:. 1 . 3 4"},
		{"1+0:4 1 . 3", "1+0:. . . . .", 0, 4, "", "1+0:. 1 . 3 4"},
		{"1+0:x 1 . 3", "1+0:. . . . 4", 1, 4, "", "1+0:. 1 . 3 4"},
		{"1+0:x x . x", "1+0:. 1 . 3 4", 4, 3, "", "1+0:. 1 . 3 4"},
	})
}

func TestDropInExamples(t *testing.T) {
	checkChanges(t, "DropIn", impl.DropIn, []change{
		// In Old: the tomb does not go over.
		{"1+0:4 1 . 3", "1+0:. . . . .", 0, 4, "1+0:x 1 . 3 > 1+0:. . . . . at 0", "1+0:. 1 . 3 ."},
		{"1+0:x 1 . 3", "1+0:. . . . 4", 1, 3, "1+0:x 1 . x > 1+0:. . . . 4 at 1", "1+0:. 1 . . 4"},
		{"0+0:5 6 7", "0+0:. . .", 0, 6, "0+0:5 x 7 > 0+0:. . . at 0", "0+0:5 7 ."},
		// In New: the tomb stays there until a key comes to it.
		{"1+0:x 1 . 3", "1+0:. . . . 4", 1, 4, "1+0:x 1 . 3 > 1+0:. . . . x at 1", "1+0:. 1 . 3 x"},
		{"1+0:x 1", "1+0:6 x x", 1, 6, "1+0:x 1 > 1+0:x x x at 1", "1+0:x 1 x"},
		{"0+0:x 6 7", "0+0:5 . .", 1, 5, "0+0:x 6 7 > 0+0:x . . at 1", "0+0:6 7 ."},
		{"1+0:x x . x", "1+0:. 1 . 3 4", 4, 3, "1+0:x x . x > 1+0:. 1 . x 4 at 4", "1+0:. 1 . x 4"},
		{"1+0:x", "1+0:1 2 0", 1, 0, "1+0:x > 1+0:1 2 x at 1", "1+0:1 2 x"},
		// The key is not found.
		{"1+0:x 1 . 3", "1+0:. . . . 4", 1, 9, "", "1+0:. 1 . 3 4"},
		{"1+0:x 1 . 3", "1+0:. . . . 4", 1, 0, "", "1+0:. 1 . 3 4"},
		{"0+0:.", "0+0:.", 0, 0, "", "0+0:."},
	})
}

// TestDroppedKeysMakeRoom puts a key where there was none, and puts again what has been dropped.
func TestDroppedKeysMakeRoom(t *testing.T) {
	m := moveOf("1+0:4 1 . 3", "1+0:. . .", 0)
	if _, ok := impl.PutIn(m, 5); ok {
		t.Errorf("PutIn(%v, 5) = true", m)
	}
	m, _ = impl.DropIn(m, 3)
	m, _ = impl.StepMove(m)
	m, _ = impl.PutIn(m, 3)
	if got := moveText(m); got != "1+0:x 1 . x > 1+0:3 4 . at 1" {
		t.Errorf("the move became %s", got)
	}
	if end, ok := impl.EndMove(m); impl.FormatTable(end) != "1+0:3 4 1" || !ok {
		t.Errorf("EndMove = %v, %v", end, ok)
	}
}

// notMoves are moves that break one rule each.
func notMoves() map[string]impl.Move {
	from, to := tableOf(1, 0, tomb, 1, free, 3), tableOf(1, 0, free, free, free, free, 4)
	moves := map[string]impl.Move{
		"the zero value":                 {},
		"no New":                         {Old: from, Next: 1},
		"no Old":                         {New: to},
		"other Times":                    {Old: from, New: tableOf(2, 0, slotsWith(5)...), Next: 1},
		"other Plus":                     {Old: from, New: tableOf(1, 1, slotsWith(5)...), Next: 1},
		"a key in both":                  {Old: from, New: tableOf(1, 0, free, 1, free, free, 4), Next: 1},
		"the last key in both":           {Old: from, New: tableOf(1, 0, free, free, free, 3, 4), Next: 1},
		"the same table twice":           {Old: from, New: from, Next: 1},
		"a key ahead of Next":            {Old: from, New: to, Next: 2},
		"keys ahead of Next, at the end": {Old: from, New: to, Next: 4},
		"the first key ahead of Next":    {Old: tableOf(1, 0, 4), New: tableOf(1, 0, free), Next: 1},
		"room for one key too few":       {Old: from, New: tableOf(1, 0, free), Next: 0},
		"no room but for one":            {Old: from, New: tableOf(1, 0, 5, 6, 2, free, 4), Next: 1},
		"no room at all":                 {Old: tableOf(0, 0, 5), New: tableOf(0, 0, 6)},
	}
	for _, next := range []int{math.MinInt, -4, -1, 5, 6, 16, 1 << 32, math.MaxInt} {
		moves["Next "+strconv.Itoa(next)] = impl.Move{Old: tableOf(1, 0, tomb, tomb, free, free), New: to, Next: next}
	}
	return moves
}

func TestNotMoves(t *testing.T) {
	for why, m := range notMoves() {
		checkNoMove(t, why, m)
	}
	for _, tables := range []map[string]impl.Table{notValid(), notSound()} {
		for why, x := range tables {
			other := tableOf(x.Times, x.Plus, slotsWith(16)...)
			checkNoMove(t, "Old: "+why, impl.Move{Old: x, New: other})
			checkNoMove(t, "New: "+why, impl.Move{Old: other, New: x})
			checkNoMove(t, "New, at the end: "+why, impl.Move{Old: other, New: x, Next: 16})
			checkNoMove(t, "both: "+why, impl.Move{Old: x, New: x})
		}
	}
}

func TestStartsOfNoMoves(t *testing.T) {
	check := func(why string, x impl.Table, size int) {
		t.Helper()
		if got, ok := impl.StartMove(x, size); !isZeroMove(got) || ok {
			t.Errorf("%s: StartMove(%d) = %v, %v", why, size, got, ok)
		}
	}
	for text, x := range texted() {
		for _, size := range noSizes {
			check(text, x, size)
		}
	}
	for _, tables := range []map[string]impl.Table{notValid(), notSound()} {
		for why, x := range tables {
			for _, size := range append([]int{1, 2, 7, 16}, noSizes...) {
				check(why, x, size)
			}
		}
	}
}

func TestMovesOfNoKeys(t *testing.T) {
	for _, m := range []impl.Move{
		moveOf("1+0:x 1 . 3", "1+0:. . . . 4", 1), moveOf("1+0:x x . x", "1+0:. 1 . 3 4", 4), moveOf("0+0:.", "0+0:.", 0),
		moveOf("0+0:x x", "0+0:x x", 1), moveOf("1+0:. x", "1+0:1 2 0", 2),
	} {
		if !impl.MoveValid(m) {
			t.Errorf("%v is not valid", m)
		}
		for _, number := range noKeys {
			checkKeyInMove(t, m, number, impl.Move{}, impl.Move{}, "", -1)
		}
	}
}

// callGrowing calls every function of the chapter that is handed a move.
func callGrowing(m impl.Move) {
	impl.MoveValid(m)
	impl.FormatMove(m)
	impl.StepMove(m)
	impl.EndMove(m)
	for n := -3; n <= 101; n++ {
		impl.FindIn(m, n)
		impl.PutIn(m, n)
		impl.DropIn(m, n)
	}
}

func TestTablesStayInGrowing(t *testing.T) {
	checkStay(t, func(x impl.Table) {
		for size := -1; size <= 17; size++ {
			impl.StartMove(x, size)
		}
		callGrowing(impl.Move{Old: x, New: tableOf(x.Times, x.Plus, slotsWith(16)...)})
		callGrowing(impl.Move{Old: tableOf(x.Times, x.Plus, 50), New: x})
		callGrowing(impl.Move{Old: x, New: x})
	})
	// Here keys go over.
	from := append(slotsWith(7, tomb, 8, 2, 14, 5), 77, 78)
	to := append(slotsWith(9, 9, tomb, 20), 87, 88)
	one, two := slices.Clone(from), slices.Clone(to)
	m := impl.Move{Old: tableOf(1, 0, from[:5]...), New: tableOf(1, 0, to[:9]...), Next: 1}
	callGrowing(m)
	if !slices.Equal(from, one) || !slices.Equal(to, two) || m.Next != 1 {
		t.Errorf("the slots became %v and %v", from, to)
	}
}

func TestGrowingResultsShareNothing(t *testing.T) {
	from, to := append(slotsWith(7, tomb, 8, 2, 3), 97, 98, 99), append(slotsWith(9, 9), 87, 88, 89)
	one, two := slices.Clone(from), slices.Clone(to)
	m := impl.Move{Old: tableOf(1, 0, from[:7]...), New: tableOf(1, 0, to[:9]...), Next: 1}
	// Old and New may lie in the same memory. Neither has keys, so that nothing changes in them.
	same := impl.Move{Old: tableOf(1, 0, to[1:9]...), New: tableOf(1, 0, to[1:9]...)}
	var tables []impl.Table
	keep := func(m impl.Move, ok bool) {
		t.Helper()
		if !ok {
			t.Errorf("there is no move")
		}
		tables = append(tables, m.Old, m.New)
	}
	keep(impl.StartMove(m.Old, 7))
	keep(impl.StepMove(m))
	keep(impl.StepMove(same))
	keep(impl.PutIn(m, 50))
	keep(impl.PutIn(same, 50))
	keep(impl.DropIn(m, 9))
	keep(impl.DropIn(m, 3))
	// All slots of the last one have gone over, so that New is as it was.
	for _, last := range []impl.Move{m, same, {Old: same.Old, New: same.New, Next: 8}} {
		end, ok := impl.EndMove(last)
		if !ok {
			t.Errorf("%v has no end", last)
		}
		tables = append(tables, end)
	}
	checkApart(t, tables...)
	if !slices.Equal(from, one) || !slices.Equal(to, two) {
		t.Errorf("the slots became %v and %v", from, to)
	}
}

// checkGoroutinesEnd waits for a while: a goroutine ends a moment after it has sent for the last time.
func checkGoroutinesEnd(t *testing.T, call func()) {
	t.Helper()
	before := runtime.NumGoroutine()
	for range 500 {
		call()
	}
	for tries := 0; runtime.NumGoroutine() > before; tries++ {
		if tries == 1000 {
			t.Fatalf("there were %d goroutines, and there are %d", before, runtime.NumGoroutine())
		}
		time.Sleep(time.Millisecond)
	}
}

func TestMovesLeaveNoGoroutines(t *testing.T) {
	m := moveOf("1+0:4 1 . 3", "1+0:. . . . .", 0)
	checkGoroutinesEnd(t, func() {
		impl.StepMove(m)
		impl.EndMove(m)
		impl.StepMove(impl.Move{Old: m.New, New: m.New, Next: 5})
	})
}
