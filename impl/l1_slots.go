package impl

import (
	"iter"
	"slices"
	"strconv"
	"strings"
)

// Limits of tables.
const (
	MaxSize  = 16
	MaxKey   = 99
	MaxTimes = 15
)

// What a slot holds if it holds no key: numbers below all keys.
const (
	Free = -1 - iota
	Tomb
)

// A Table has slots in a ring. A key has its home at Times times the key plus Plus.
type Table struct {
	Times int
	Plus  int
	Slots []int
}

// A held is what a slot holds: a key, Free or Tomb.
type held int

func (h held) isKey() bool {
	return h >= 0 && h <= MaxKey
}

func (h held) isValid() bool {
	return h.isKey() || h == Free || h == Tomb
}

func (h held) text() string {
	switch h {
	case Free:
		return "."
	case Tomb:
		return "x"
	}
	return strconv.Itoa(int(h))
}

// A cell is a slot of a ring. Its home means nothing unless it holds a key.
type cell struct {
	held
	home int
}

// A ring has the slots of a valid table, so it is never empty.
type ring []cell

func ringOf(t Table) ring {
	r := make(ring, len(t.Slots))
	for i, holds := range t.Slots {
		r[i] = cell{held: held(holds), home: homeIn(t, holds)}
	}
	return r
}

// at returns the slot to which one comes by going so far from the slot 0, in either direction.
func (r ring) at(number int) cell {
	return r[r.wrap(number)]
}

// wrap adds the size because the remainder of a negative number is negative in Go.
func (r ring) wrap(number int) int {
	return (number%len(r) + len(r)) % len(r)
}

// keys yields the keys in the order of their slots.
func (r ring) keys() iter.Seq[int] {
	return func(yield func(int) bool) {
		for _, c := range r {
			if c.isKey() && !yield(int(c.held)) {
				return
			}
		}
	}
}

// homeIn is for valid tables only: one without slots has no remainders.
func homeIn(t Table, key int) int {
	return (t.Times*key + t.Plus) % len(t.Slots)
}

func isKey(number int) bool {
	return held(number).isKey()
}

// isTimes is for Plus too, which has the same limit.
func isTimes(number int) bool {
	return number >= 0 && number <= MaxTimes
}

func isSize(number int) bool {
	return number >= 1 && number <= MaxSize
}

// TableValid reports whether a table is valid.
func TableValid(t Table) bool {
	if !isTimes(t.Times) || !isTimes(t.Plus) || !isSize(len(t.Slots)) {
		return false
	}
	var seen [MaxKey + 1]bool
	for _, holds := range t.Slots {
		if !held(holds).isValid() {
			return false
		}
		if !isKey(holds) {
			continue
		}
		if seen[holds] {
			return false
		}
		seen[holds] = true
	}
	return true
}

// NewTable returns a table of free slots.
func NewTable(size int, times int, plus int) (Table, bool) {
	// The size comes first: no memory can be had for some sizes.
	if !isSize(size) || !isTimes(times) || !isTimes(plus) {
		return Table{}, false
	}
	return Table{Times: times, Plus: plus, Slots: slices.Repeat([]int{Free}, size)}, true
}

// FormatTable returns the text of a table.
func FormatTable(t Table) string {
	if !TableValid(t) {
		return ""
	}
	var words []string
	for _, c := range ringOf(t) {
		words = append(words, c.text())
	}
	return strconv.Itoa(t.Times) + "+" + strconv.Itoa(t.Plus) + ":" + strings.Join(words, " ")
}

// A reader goes through a text and panics where nothing fits; readWhole recovers that.
type reader struct {
	rest string
}

// takes goes past a mark if it comes next, and reports whether it did.
func (r *reader) takes(mark string) bool {
	rest, found := strings.CutPrefix(r.rest, mark)
	r.rest = rest
	return found
}

func (r *reader) mark(mark string) {
	if !r.takes(mark) {
		panic("no mark fits")
	}
}

// number reads digits. It looks at the limit after each one, so that no number is too long for an int.
func (r *reader) number(most int) int {
	if r.takes("0") {
		return 0
	}
	number, digits := 0, 0
	for digits < len(r.rest) && r.rest[digits] >= '0' && r.rest[digits] <= '9' {
		number = 10*number + int(r.rest[digits]-'0')
		digits++
		if number > most {
			panic("no number fits")
		}
	}
	if digits == 0 {
		panic("no digit fits")
	}
	r.rest = r.rest[digits:]
	return number
}

func (r *reader) slot() int {
	switch {
	case r.takes("."):
		return Free
	case r.takes("x"):
		return Tomb
	}
	return r.number(MaxKey)
}

// slots leaves what lies behind the last slot that a table can have: then the text does not end, and is none.
func (r *reader) slots() []int {
	slots := []int{r.slot()}
	for len(slots) < MaxSize && r.takes(" ") {
		slots = append(slots, r.slot())
	}
	return slots
}

func (r *reader) table() Table {
	var t Table
	t.Times = r.number(MaxTimes)
	r.mark("+")
	t.Plus = r.number(MaxTimes)
	r.mark(":")
	t.Slots = r.slots()
	return t
}

// readWhole reports whether a text could be read, and nothing was left of it.
func readWhole(text string, read func(*reader)) (whole bool) {
	defer func() {
		if recover() != nil {
			whole = false
		}
	}()
	r := reader{rest: text}
	read(&r)
	return r.rest == ""
}

// ParseTable parses the text of a table.
func ParseTable(text string) (Table, bool) {
	var t Table
	whole := readWhole(text, func(r *reader) { t = r.table() })
	// Slots that fit one by one may still hold a key twice.
	if !whole || !TableValid(t) {
		return Table{}, false
	}
	return t, true
}

// HomeOf returns the slot where a key has its home.
func HomeOf(t Table, key int) int {
	if !TableValid(t) || !isKey(key) {
		return -1
	}
	return homeIn(t, key)
}

// KeysIn returns all keys of a table, in order.
func KeysIn(t Table) ([]int, bool) {
	if !TableValid(t) {
		return nil, false
	}
	var keys []int
	for key := range ringOf(t).keys() {
		keys = append(keys, key)
	}
	slices.Sort(keys)
	return keys, true
}

// CountSlots returns how many slots have keys, are tombs, and are free.
func CountSlots(t Table) (int, int, int) {
	if !TableValid(t) {
		return -1, -1, -1
	}
	keys, tombs, free := 0, 0, 0
	for _, c := range ringOf(t) {
		switch c.held {
		case Free:
			free++
		case Tomb:
			tombs++
		default:
			keys++
		}
	}
	return keys, tombs, free
}

// SameTable reports whether two tables are the same.
func SameTable(a Table, b Table) bool {
	return a.Times == b.Times && a.Plus == b.Plus && slices.Equal(a.Slots, b.Slots)
}

// AwayOf returns how many slots a slot lies behind the home of its key.
func AwayOf(t Table, slot int) int {
	if !TableValid(t) || slot < 0 || slot >= len(t.Slots) {
		return -1
	}
	r := ringOf(t)
	c := r.at(slot)
	if !c.isKey() {
		return -1
	}
	return r.wrap(slot - c.home)
}
