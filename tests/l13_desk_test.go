package tests

import (
	"fmt"
	"math"
	"regexp"
	"slices"
	"strconv"
	"strings"
	"testing"

	"loop.example/opentables/impl"
)

// numbersText is what is written of numbers, by the text that Go has for them.
func numbersText(list ...int) string {
	if len(list) == 0 {
		return "-"
	}
	return strings.Trim(fmt.Sprint(list), "[]")
}

var numbersForm = regexp.MustCompile(`\A(-|(0|[1-9][0-9]{0,16})( (0|[1-9][0-9]{0,16}))*)\z`)

// numbersOf is what ParseNumbers returns, by the form of texts.
func numbersOf(text string) ([]int, bool) {
	if !numbersForm.MatchString(text) {
		return nil, false
	}
	var list []int
	for _, word := range strings.Fields(strings.TrimPrefix(text, "-")) {
		number, _ := strconv.Atoi(word)
		list = append(list, number)
	}
	return list, true
}

func checkNumbers(t *testing.T, text string, want []int, whole bool) {
	t.Helper()
	if got, ok := impl.ParseNumbers(text); !slices.Equal(got, want) || ok != whole {
		t.Errorf("ParseNumbers(%.60q) = %v, %v, not %v, %v", text, got, ok, want, whole)
	}
}

// numberTexts are texts of numbers from 0 on, of at most 17 digits each.
func numberTexts() map[string][]int {
	return map[string][]int{
		"-":                               nil,
		"0":                               {0},
		"7":                               {7},
		"10":                              {10},
		"1 0 3":                           {1, 0, 3},
		"0 0 0":                           {0, 0, 0},
		"99 100 2147483648":               {99, 100, 1 << 31},
		"99999999999999999":               {99999999999999999},
		"5 10000000000000000":             {5, 10000000000000000},
		"12345678901234567 8":             {12345678901234567, 8},
		strings.Repeat("4 ", 10000) + "4": slices.Repeat([]int{4}, 10001),
	}
}

func TestNumbers(t *testing.T) {
	for text, list := range numberTexts() {
		checkNumbers(t, text, list, true)
		if got := impl.FormatNumbers(list); got != text {
			t.Errorf("FormatNumbers(%v) = %.60q, not %.60q", list, got, text)
		}
	}
	for text, list := range map[string][]int{
		"-":       {},
		"1 0 -3":  {1, 0, -3},
		"-1":      {-1},
		"-1 -2 5": {-1, -2, 5},
		"9223372036854775807 -9223372036854775808": {math.MaxInt, math.MinInt},
		"100000000000000000":                       {100000000000000000},
	} {
		if got := impl.FormatNumbers(list); got != text {
			t.Errorf("FormatNumbers(%v) = %q, not %q", list, got, text)
		}
	}
}

func TestNoNumbers(t *testing.T) {
	for _, text := range []string{
		"", " ", "  ", "- ", " -", "--", "- 1", "1 -", "-1", "1 -1", "-0", "+1", "1+", "1  2", " 1", "1 ", "1 2 ", "1\n", "1\n2", "1\t2", "1, 2", "1,2",
		"01", "00", "0 00", "1 02", "1 2x", "x", ".", "1.0", "1e3", "0x1", "1_0", "\x00", "1\x00", "\xff", "1\xff2", "\u0663", "\u00a01", "1\u00a02",
		"100000000000000000", "999999999999999999", "1 100000000000000000", "100000000000000000 1", "000000000000000001", "00000000000000001",
		"9223372036854775807", "9223372036854775808", "18446744073709551616", "18446744073709551617", "-9223372036854775808",
		strings.Repeat("9", 100000), strings.Repeat("0", 100000), strings.Repeat(" ", 100000), strings.Repeat("1 ", 100000), strings.Repeat("-", 100000),
	} {
		checkNumbers(t, text, nil, false)
	}
}

// TestNumbersWithAByteOther holds for each text by its form, and by the numbers that are written again.
func TestNumbersWithAByteOther(t *testing.T) {
	for _, text := range []string{"-", "0", "10 0 205", "7 99999999999999999 8"} {
		eachByteOther(text, func(text string) {
			want, whole := numbersOf(text)
			checkNumbers(t, text, want, whole)
			if list, ok := impl.ParseNumbers(text); ok && impl.FormatNumbers(list) != text {
				t.Errorf("ParseNumbers(%q) = %v", text, list)
			}
		})
	}
}

func TestFormatParts(t *testing.T) {
	for want, parts := range map[string][]impl.Part{
		"-":                              {},
		"- : -":                          {{}},
		"1 2 : -":                        {{Slots: []int{1, 2}}},
		"- : 7":                          {{Keys: []int{7}}},
		"1 2 : 7 | - : -":                {{Slots: []int{1, 2}, Keys: []int{7}}, {}},
		"0 : 0 | 4 5 : 5 12 19 | 6 : 20": {{Slots: []int{0}, Keys: []int{0}}, {Slots: []int{4, 5}, Keys: []int{5, 12, 19}}, {Slots: []int{6}, Keys: []int{20}}},
		"-1 -1 : 100 -5":                 {{Slots: []int{-1, -1}, Keys: []int{100, -5}}},
	} {
		if got := impl.FormatParts(parts); got != want {
			t.Errorf("FormatParts(%v) = %q, not %q", parts, got, want)
		}
	}
	if got := impl.FormatParts(nil); got != "-" {
		t.Errorf("FormatParts(nil) = %q", got)
	}
}

func TestNumbersShareNothing(t *testing.T) {
	const text = "7 14 8"
	one, _ := impl.ParseNumbers(text)
	two, _ := impl.ParseNumbers(text)
	spoil(one)
	if got := impl.FormatNumbers(two); got != text {
		t.Errorf("the numbers became %s", got)
	}
	checkNumbers(t, text, []int{7, 14, 8}, true)
}

func TestListsStay(t *testing.T) {
	memory := []int{7, 14, 8, 77, 78}
	parts := []impl.Part{{Slots: memory[:2], Keys: memory[1:3]}, {Slots: memory[:0]}, {Keys: []int{5}}}
	impl.FormatNumbers(memory[:3])
	impl.FormatParts(parts[:2])
	if !slices.Equal(memory, []int{7, 14, 8, 77, 78}) {
		t.Errorf("the numbers became %v", memory)
	}
	if !samePart(parts[0], impl.Part{Slots: []int{7, 14}, Keys: []int{14, 8}}) || !samePart(parts[2], impl.Part{Keys: []int{5}}) {
		t.Errorf("the parts became %v", parts)
	}
}

// written runs lines, and returns what is written, without the newline of each line.
func written(t *testing.T, lines ...string) []string {
	t.Helper()
	script := strings.Join(lines, "\n")
	output := impl.RunScript(script)
	if output == "" {
		return nil
	}
	if !strings.HasSuffix(output, "\n") {
		t.Fatalf("what is written for %.200q does not end with a newline: %.200q", script, output)
	}
	return strings.Split(strings.TrimSuffix(output, "\n"), "\n")
}

func checkScript(t *testing.T, script string, want string) {
	t.Helper()
	if got := impl.RunScript(script); got != want {
		t.Errorf("RunScript(%.200q) = %.200q, not %.200q", script, got, want)
	}
}

// checkTalk reads a talk: lines of a script begin with a mark, and what is written for each stands behind it.
func checkTalk(t *testing.T, why string, talk string) {
	t.Helper()
	var said, want []string
	for line := range strings.Lines(talk) {
		line = strings.TrimSpace(line)
		if rest, ok := strings.CutPrefix(line, "> "); ok {
			said = append(said, rest)
		} else if line != "" {
			want = append(want, line)
		}
	}
	got := written(t, said...)
	if len(said) != len(want) || len(said) > 100 {
		t.Fatalf("%s: the talk has %d lines and %d that are written", why, len(said), len(want))
	}
	for i, line := range said {
		if i >= len(got) || got[i] != want[i] {
			t.Fatalf("%s: %q writes %q, not %q", why, line, got[i:], want[i])
		}
	}
}

const exampleTalk = `
	> put 7 14 8 3
	1+0:7 14 8 3 . . .
	> size
	4 0 3 57 1 2 6 17 0
	> truths
	true true true
	> runs
	0 4
	> order
	3 7 14 8
	> home
	3 7
	> find 14
	1 0 2 -1 2
	> find 10
	-1 3 2 4 2
	> moves 7
	14 8
	> swaps 0
	7 14 8 3
	> drop 14
	1+0:7 x 8 3 . . .
	> tombs
	1
	> clean
	1+0:7 8 . 3 . . .
	> shift 7
	1+0:. 8 . 3 . . .
	> give 1 15
	1+0:. 1 8 15 3 . .
	> take 8
	1+0:. 1 15 3 . . .
	> tables 22
	1+0:. 1 15 3 22 . .
	> taken 22 29
	4 5
	> steps 4
	1+0:. 1 15 3 4 . . : 1
	> grow 5
	1+0:15 1 . 3 .
	> miss 0
	3 2
	> push 5 12 0
	2+1/1+0:0 . . . 5 12 .
	> pushes 4
	5 12 4
	> homes 12
	5 4 5
	> pull 0
	2+1/1+0:. . . . 5 12 .
	> parts 0 1 6
	0 1 3 : 0 1 | 6 : 6
	> ways 0 1 6
	3 3 3 1 true
	> nests 0
	2+1/1+0:0 . . . 5 12 .
	> way 7 2 1 0
	0 1 4 2 2 4 1 : 4 1
	> whole 8
	1 3 5 7
	> foo
	what`

const tombsTalk = `
	> table 1+0:7 x 8 3 x . .
	1+0:7 x 8 3 x . .
	> keys
	3 7 8
	> size
	3 2 2 71 1 1 4 22 0
	> truths
	true false false
	> lost
	-
	> tombs
	1
	> home
	3 7
	> runs
	0 5
	> order
	no
	> find 8
	2 1 2 -1 -1
	> find 1
	-1 1 5 1 -1
	> miss 0
	6 -1
	> moves 7
	no
	> swaps 1
	no
	> shift 7
	no
	> give 1
	no
	> take 7
	no
	> fairs 1
	no
	> steps 1 8 10
	1+0:7 1 8 3 x . . | 1+0:7 1 8 3 x . . | 1+0:7 1 8 3 10 . . : 10
	> taken 10 1
	1 4
	> tables 1 2
	1+0:7 1 8 3 2 . .
	> table
	1+0:7 x 8 3 x . .
	> fewest
	1+0:7 x 8 3 . . .
	> trim
	1+0:7 x 8 3 . . .
	> put 1 8
	1+0:7 1 8 3 . . .
	> drop 3 50 8
	1+0:7 1 x x . . .
	> trim
	1+0:7 1 . . . . .
	> fair
	1+0:7 1 . . . . .
	> drop 7
	1+0:x 1 . . . . .
	> clean
	1+0:. 1 . . . . .`

const lostTalk = `
	> table 1+0:. 0 . 7
	1+0:. 0 . 7
	> keys
	0 7
	> size
	2 0 2 50 1 1 -1 6 1
	> truths
	false false false
	> lost
	0
	> tombs
	no
	> home
	7
	> runs
	1 1 | 3 1
	> order
	no
	> find 0
	-1 0 1 0 -1
	> find 7
	3 3 1 -1 -1
	> find 99
	-1 3 2 0 -1
	> miss 0
	1 -1
	> miss 4
	no
	> put 5
	no
	> put -
	no
	> drop 7
	no
	> drop -
	no
	> shift 7
	no
	> give 5
	no
	> take 7
	no
	> grow 5
	no
	> move 5
	no
	> trim
	no
	> clean
	no
	> fewest
	no
	> moves 7
	no
	> swaps 5
	no
	> steps -
	no
	> taken -
	no
	> tables -
	no
	> fairs -
	no
	> table
	1+0:. 0 . 7
	> homes 7
	0 1 -1
	> parts 7
	0 1 : 7
	> fair
	1+0:0 . . 7
	> lost
	-`

const fullTalk = `
	> table 1+0:0 x 4
	1+0:0 x 4
	> size
	2 1 0 100 1 1 3 9 0
	> runs
	0 3
	> find 5
	-1 2 3 1 -1
	> put 1
	1+0:0 1 4
	> find 5
	-1 2 3 -1 -1
	> truths
	true true false
	> order
	0 1 4
	> put 4 1
	1+0:0 1 4
	> put 5
	no
	> fair
	no
	> grow 2
	no
	> moves 0
	-
	> moves 1
	4
	> steps 4 0
	1+0:0 1 4 | 1+0:0 1 4 : 3
	> taken 4 0
	-
	> tables 4 0
	1+0:0 1 4
	> move 3
	1+0:0 1 4 > 1+0:. . . at 0 | 1+0:x 1 4 > 1+0:0 . . at 1 | 1+0:x x 4 > 1+0:0 1 . at 2 | 1+0:x x x > 1+0:0 1 4 at 3
	> grow 4
	1+0:0 1 4 .
	> shift 1 50
	1+0:0 4 . .
	> drop 0 4
	1+0:x x . .
	> keys
	-
	> home
	-
	> tombs
	-
	> size
	0 2 2 50 0 0 0 7 0
	> trim
	1+0:. . . .`

const fairTalk = `
	> give 14 7 8 1
	1+0:7 14 1 8 . . .
	> truths
	true true true
	> miss 0
	5 3
	> miss 6
	1 1
	> miss 7
	no
	> find 21
	-1 0 5 4 3
	> swaps 0
	7 14 1 8
	> swaps 22
	-
	> swaps 7
	no
	> moves 7
	14 1 8
	> moves 9
	no
	> take 7
	1+0:14 1 8 . . . .
	> take 7
	no
	> fairs 0 7
	1+0:0 7 14 1 8 . .
	> fairs 8 14
	1+0:14 1 8 . . . .
	> tables 0 7
	1+0:14 1 8 0 7 . . | 1+0:14 1 8 7 0 . .
	> give 2 3 4
	1+0:14 1 8 2 3 4 .
	> give 5
	no
	> put 5
	1+0:14 1 8 2 3 4 5
	> take 14
	no
	> runs
	0 7
	> shift 5 4 3 2 1
	1+0:14 8 . . . . .`

const ringsTalk = `
	> table 1+0:6 . 2 3 . x 13
	1+0:6 . 2 3 . x 13
	> runs
	2 2 | 5 3
	> move 1
	no
	> grow 3
	no
	> grow 4
	1+0:3 13 6 2
	> find 13
	1 1 1 -1 -1
	> table 1+0:3 1 .
	1+0:3 1 .
	> move 5
	1+0:3 1 . > 1+0:. . . . . at 0 | 1+0:x 1 . > 1+0:. . . 3 . at 1 | 1+0:x x . > 1+0:. 1 . 3 . at 2 | 1+0:x x . > 1+0:. 1 . 3 . at 3
	> table
	1+0:3 1 .
	> grow 16
	1+0:. 1 . 3 . . . . . . . . . . . .
	> move 0
	no
	> grow 0
	no
	> grow 17
	no
	> move 17
	no
	> table 0+0:.
	0+0:.
	> move 1
	0+0:. > 0+0:. at 0 | 0+0:. > 0+0:. at 1
	> steps 5 5
	0+0:5 | 0+0:5 : 2
	> way 8 1 1 3
	3 4 6 1 5 2 0 7 : 8 1
	> way 12 0 8 11
	11 7 3 11 7 3 11 7 3 11 7 3 : 3 4
	> way 4 2 0 3
	3 3 3 3 : 1 4
	> way 1 0 16 0
	0 : 1 1
	> way 16 1 16 15
	15 15 15 15 15 15 15 15 15 15 15 15 15 15 15 15 : 1 16
	> way 7 3 1 0
	no
	> way 0 0 0 0
	no
	> way 17 0 1 0
	no
	> way 7 0 17 0
	no
	> way 7 0 1 7
	no
	> whole 1
	0
	> whole 16
	1 3 5 7 9 11 13 15
	> whole 0
	no
	> whole 17
	no
	> table
	0+0:.`

const nestTalk = `
	> nest
	2+1/1+0:. . . . . . .
	> homes 0
	0 1 -1
	> homes 99
	1 3 -1
	> homes 100
	no
	> push 5 12 0
	2+1/1+0:0 . . . 5 12 .
	> push 0 5
	2+1/1+0:0 . . . 5 12 .
	> push -
	2+1/1+0:0 . . . 5 12 .
	> push 1 19
	no
	> push 100
	no
	> nest
	2+1/1+0:0 . . . 5 12 .
	> pushes 19
	no
	> pushes 5
	no
	> pushes 1
	-
	> nests 1 15
	2+1/1+0:0 15 . 1 5 12 . | 2+1/1+0:0 1 . 15 5 12 .
	> nests -
	2+1/1+0:0 . . . 5 12 .
	> nests 1 19
	no
	> parts 5 12 0 5
	0 1 : 0 | 4 5 : 5 12
	> parts 100
	no
	> parts -
	-
	> ways 5 12 19
	0 0 2 2 false
	> ways 0 5 12
	4 4 3 1 true
	> ways -
	1 1 0 0 true
	> ways 1 100
	no
	> pull 12
	2+1/1+0:0 . . . 5 . .
	> pull 12
	no
	> pull 100
	no
	> table
	1+0:. . . . . . .
	> nest 1+0/1+0:. . . . . . . . . 9 . . . . . .
	1+0/1+0:. . . . . . . . . 9 . . . . . .
	> ways 0 1 2 3 4 5 6 7 8
	1 -1 9 9 true
	> nests 0 1 2 3 4 5
	no
	> homes 25
	9 9 -1
	> homes 9
	9 9 9
	> pushes 25
	no
	> parts 9 10
	9 : 9 | 10 : 10
	> nest 0+0/1+0:. . . . 5 12 .
	no
	> nest 2+1/1+0:x
	no
	> nest 2+1/1+0:.
	2+1/1+0:.`

func TestTalks(t *testing.T) {
	checkTalk(t, "the example", exampleTalk)
	checkTalk(t, "tombs", tombsTalk)
	checkTalk(t, "a table that is not sound", lostTalk)
	checkTalk(t, "a full table", fullTalk)
	checkTalk(t, "fair tables", fairTalk)
	checkTalk(t, "tables that grow, and ways", ringsTalk)
	checkTalk(t, "nests", nestTalk)
}

// Words of lines: those that stand alone, and the rests that the others have.
const (
	aloneWords   = "table nest trim clean fewest fair keys size truths lost tombs home runs order"
	textWords    = "table nest"
	numbersWords = "put drop shift give push steps taken parts ways tables fairs nests"
	numberWords  = "take grow pull find moves swaps pushes homes miss move whole"
	restWords    = textWords + " " + numbersWords + " " + numberWords + " way"
)

// checkWrong runs a line with which nothing can be done, and looks at what the desk has behind it.
func checkWrong(t *testing.T, line string, want string) {
	t.Helper()
	got := written(t, "put 7 8", "push 5 12", line, "table", "nest")
	if !slices.Equal(got, []string{"1+0:7 8 . . . . .", "2+1/1+0:. . . . 5 12 .", want, "1+0:7 8 . . . . .", "2+1/1+0:. . . . 5 12 ."}) {
		t.Errorf("%q writes %q", line, got)
	}
}

func TestLinesThatAreNone(t *testing.T) {
	alone, rest := strings.Fields(aloneWords), strings.Fields(restWords)
	for _, word := range alone {
		if !slices.Contains(rest, word) {
			checkWrong(t, word+" ", "what")
			checkWrong(t, word+" 5", "what")
			checkWrong(t, word+" -", "what")
		}
	}
	for _, word := range rest {
		if !slices.Contains(alone, word) {
			checkWrong(t, word, "what")
		}
		checkWrong(t, word+" ", "no")
	}
	for _, word := range append(alone, rest...) {
		for _, other := range []string{" " + word, " " + word + " 5", word + "\r", word + "\t", word + "\t5", word + "\x00", word + ".", word + "x", "x" + word, word[1:], strings.ToUpper(word), strings.ToUpper(word[:1]) + word[1:], word + "\u00a05"} {
			checkWrong(t, other, "what")
		}
	}
	for _, line := range []string{" ", "  ", "foo", "foo ", "foo x", "x", "5", "-", "\r", "\t", "\x00", "\xff", "no", "what", "full", "long", "help", "?", "#", "put5", "put-", "\u00e9", strings.Repeat("x", 19000), strings.Repeat(" ", 19000)} {
		checkWrong(t, line, "what")
	}
}

func TestRestsThatDoNotFit(t *testing.T) {
	noNumbers := []string{"", " ", "x", "-1", "01", "5 06", "5 ", " 5", "5  6", "5\r", "5\t6", "5,6", "+5", "5.", "--", "- 5", "5 -", "0x5", "5 100000000000000000", "100000000000000000", "\u0665", "\x00", "keys", "1+0:.", strings.Repeat("9", 10000)}
	for _, word := range strings.Fields(numbersWords + " " + numberWords + " way") {
		for _, rest := range noNumbers {
			checkWrong(t, word+" "+rest, "no")
		}
	}
	for _, word := range strings.Fields(numbersWords) {
		for _, rest := range []string{"100", "5 100", "99999999999999999", "0 99999999999999999 1", strings.Repeat("5 ", 100) + "5"} {
			checkWrong(t, word+" "+rest, "no")
		}
	}
	for _, word := range strings.Fields(numberWords) {
		for _, rest := range []string{"-", "5 6", "5 5", "5 6 7 8", "100", "10000000000000000", "99999999999999999"} {
			checkWrong(t, word+" "+rest, "no")
		}
	}
	for _, rest := range []string{"-", "7", "7 0", "7 0 1", "7 0 1 0 0", "7 0 1 7", "7 3 1 0", "8 0 17 0", "17 0 1 0", "0 0 0 0", "99999999999999999 0 1 0", "7 99999999999999999 1 0", "7 4294967296 1 0", "7 0 99999999999999999 0", "7 0 1 99999999999999999"} {
		checkWrong(t, "way "+rest, "no")
	}
	for _, rest := range []string{"1", "-", "1+0:", "1+0", "1+0:. ", "1+0:.  .", " 1+0:.", "1+0:7 7", "16+0:.", "1+16:.", "1+0:100", "01+0:.", "1+0:y", "1+0:.\r", "2+1/1+0:.", "1+0:" + strings.Repeat(". ", 16) + "."} {
		checkWrong(t, "table "+rest, "no")
	}
	for _, rest := range []string{"1", "-", "1+0:.", "2+1/", "2+1/1+0:", "2+1/1+0:x", "2+1/1+0:5 .", "2+1/1+0:. ", " 2+1/1+0:.", "2+16/1+0:.", "16+1/1+0:.", "2+1:1+0:.", "2+1/1+0:" + strings.Repeat(". ", 16) + "."} {
		checkWrong(t, "nest "+rest, "no")
	}
}

// TestListsOfMany holds at the limit of keys of a list, and past it.
func TestListsOfMany(t *testing.T) {
	hundred := strings.TrimSuffix(strings.Repeat("5 ", 100), " ")
	empty, five := "1+0:. . . . . . .", "1+0:. . . . . 5 ."
	for line, want := range map[string]string{
		"put":    five,
		"drop":   empty,
		"shift":  empty,
		"give":   five,
		"push":   "2+1/1+0:. . . . . 5 .",
		"steps":  strings.TrimSuffix(strings.Repeat(five+" | ", 100), " | ") + " : 100",
		"taken":  "5",
		"parts":  "4 5 : 5",
		"ways":   "2 2 1 0 true",
		"tables": five,
		"fairs":  five,
		"nests":  "2+1/1+0:. . . . . 5 .",
	} {
		if got := written(t, line+" "+hundred, line+" "+hundred+" 5"); !slices.Equal(got, []string{want, "no"}) {
			t.Errorf("%s writes %q, not %q", line, got, want)
		}
	}
}

func TestEmptyLines(t *testing.T) {
	const table, nest = "1+0:. . . . . . .\n", "2+1/1+0:. . . . . . .\n"
	for script, want := range map[string]string{
		"":                        "",
		"\n":                      "",
		"\n\n\n":                  "",
		"table":                   table,
		"table\n":                 table,
		"\ntable":                 table,
		"\n\ntable\n\n\nnest\n\n": table + nest,
		"table\nnest":             table + nest,
		"keys\n \nkeys":           "-\nwhat\n-\n",
		"keys\r\nkeys\r\n":        "what\nwhat\n",
		"put 5\r\nkeys":           "no\n-\n",
		"\x00":                    "what\n",
	} {
		checkScript(t, script, want)
	}
}

func TestLongScripts(t *testing.T) {
	checkScript(t, "keys"+strings.Repeat("\n", 19996), "-\n")
	checkScript(t, "keys"+strings.Repeat("\n", 19997), "long\n")
	checkScript(t, strings.Repeat("x", 20000), "what\n")
	checkScript(t, strings.Repeat("x", 20001), "long\n")
	checkScript(t, "keys\n"+strings.Repeat("keys\n", 100000), "long\n")
	checkScript(t, strings.Repeat("\n", 20000), "")
	checkScript(t, strings.Repeat("\n", 20001), "long\n")
	// A script is as long as its bytes are many.
	checkScript(t, strings.Repeat("\u00e9", 10000), "what\n")
	checkScript(t, strings.Repeat("\u00e9", 10000)+"x", "long\n")
}

func TestScriptsOfManyLines(t *testing.T) {
	hundred := strings.Repeat("keys\n", 100)
	for script, want := range map[string]string{
		hundred:                               strings.Repeat("-\n", 100),
		hundred + "\n\n\n":                    strings.Repeat("-\n", 100),
		hundred + "keys":                      strings.Repeat("-\n", 100) + "full\n",
		hundred + "keys\nkeys\nfoo\n":         strings.Repeat("-\n", 100) + "full\n",
		hundred + "\n\nfoo\n\nkeys":           strings.Repeat("-\n", 100) + "full\n",
		hundred + "put x":                     strings.Repeat("-\n", 100) + "full\n",
		strings.Repeat("foo\n", 101):          strings.Repeat("what\n", 100) + "full\n",
		strings.Repeat("put x\n", 101):        strings.Repeat("no\n", 100) + "full\n",
		strings.Repeat("\n", 99) + "keys":     "-\n",
		strings.Repeat("\n", 100) + "keys":    "full\n",
		strings.Repeat("\n", 19000) + "keys":  "full\n",
		strings.Repeat("\n", 100) + " ":       "full\n",
		strings.Repeat("\nkeys\n", 50) + "\n": strings.Repeat("-\n", 50),
		strings.Repeat("\nkeys\n", 51):        strings.Repeat("-\n", 50) + "full\n",
	} {
		checkScript(t, script, want)
	}
}

// fillTo returns a script that writes a little less than 40000 bytes, of lines that write more and less.
func fillTo() string {
	return "table 0+0:" + strings.Repeat(". ", 15) + ".\n" +
		strings.Repeat("tables 10 20 30 40 50\n", 7) + strings.Repeat("tables 10 20 30 40\n", 3) + strings.Repeat("tables 10 20 30\n", 3) + "tables 10 20\n"
}

func TestScriptsOfMuchOutput(t *testing.T) {
	fill := impl.RunScript(fillTo())
	if len(fill) != 39970 {
		t.Fatalf("%d bytes are written", len(fill))
	}
	for script, want := range map[string]string{
		// What is written may be longer than 40000 bytes, but only by the last line.
		strings.Repeat("foo\n", 6):                               strings.Repeat("what\n", 6),
		strings.Repeat("foo\n", 6) + "keys\n":                    strings.Repeat("what\n", 6) + "-\n",
		strings.Repeat("foo\n", 6) + "keys\n\n\n":                strings.Repeat("what\n", 6) + "-\n",
		strings.Repeat("foo\n", 6) + "keys\n\nkeys\nfoo":         strings.Repeat("what\n", 6) + "-\nfull\n",
		strings.Repeat("foo\n", 5) + "put\nput x":                strings.Repeat("what\n", 6) + "no\n",
		strings.Repeat("foo\n", 5) + "put x\nput x\n":            strings.Repeat("what\n", 5) + "no\nno\n",
		strings.Repeat("foo\n", 5) + "put x\nput x\nfoo":         strings.Repeat("what\n", 5) + "no\nno\nfull\n",
		strings.Repeat("foo\n", 5) + "put x\nput x\nput 5\nkeys": strings.Repeat("what\n", 5) + "no\nno\nfull\n",
		strings.Repeat("put x\n", 9) + "foo\nfoo":                strings.Repeat("no\n", 9) + "what\nfull\n",
	} {
		checkScript(t, fillTo()+script, fill+want)
	}
	longest := strings.Repeat("tables 10 20 30 40 50\n", 2)
	got := impl.RunScript(fillTo() + longest)
	if len(got) != len(fill)+5158+5 || !strings.HasSuffix(got, "\nfull\n") {
		t.Errorf("%d bytes are written, %.100q at the end", len(got), got[len(got)-100:])
	}
}

// slotOf reads the slot that is told first.
func slotOf(t *testing.T, text string) int {
	t.Helper()
	word, _, _ := strings.Cut(text, " ")
	slot, err := strconv.Atoi(word)
	if err != nil {
		t.Fatalf("%q does not begin with a slot", text)
	}
	return slot
}

// asked returns a line for each key.
func asked(word string, keys []int) []string {
	var lines []string
	for _, key := range keys {
		lines = append(lines, word+" "+strconv.Itoa(key))
	}
	return lines
}

// checkPutsAndDrops runs a script that puts keys, looks for them, drops them, and looks for them again.
func checkPutsAndDrops(t *testing.T, empty string, put string, drop string, keys []int) {
	t.Helper()
	finds := asked("find", keys)
	lines := append([]string{"table " + empty, put + " " + numbersText(keys...)}, finds...)
	lines = append(lines, drop+" "+numbersText(keys...))
	got := written(t, append(lines, finds...)...)
	put, found, dropped, lost := got[1], got[2:2+len(keys)], got[2+len(keys)], got[3+len(keys):]
	full, ok := impl.ParseTable(put)
	if !ok || !slices.Equal(keysOf(full), slices.Sorted(slices.Values(keys))) {
		t.Fatalf("%v put into %s make %s", keys, empty, put)
	}
	for i, key := range keys {
		if slot := slotOf(t, found[i]); slot < 0 || full.Slots[slot] != key {
			t.Fatalf("%d is found at %d in %s", key, slot, put)
		}
		if slotOf(t, lost[i]) != -1 {
			t.Fatalf("%d is found in %s, from which it was dropped", key, dropped)
		}
	}
	if left, ok := impl.ParseTable(dropped); !ok || len(keysOf(left)) != 0 || drop == "shift" && dropped != empty {
		t.Fatalf("%v dropped from %s by %s leave %s", keys, put, drop, dropped)
	}
}

// TestAScriptPutsKeysAndDropsThem holds the promise itself.
func TestAScriptPutsKeysAndDropsThem(t *testing.T) {
	for turn := range 100 {
		keys := fewOf(turn%5+1, turn)
		for _, size := range []int{len(keys), len(keys) + 1, 7, 16} {
			x, ok := impl.NewTable(size, turn%16, turn%7)
			if !ok {
				t.Fatalf("there is no table of %d slots", size)
			}
			empty := impl.FormatTable(x)
			checkPutsAndDrops(t, empty, "put", "drop", keys)
			checkPutsAndDrops(t, empty, "put", "shift", keys)
			if size > len(keys) {
				checkPutsAndDrops(t, empty, "give", "shift", keys)
			}
		}
	}
}

// checkPushesAndPulls is for keys that can be placed.
func checkPushesAndPulls(t *testing.T, empty string, keys []int) {
	t.Helper()
	homes := asked("homes", keys)
	got := written(t, slices.Concat([]string{"nest " + empty, "push " + numbersText(keys...)}, homes, asked("pull", keys), homes)...)
	n, ok := impl.ParseNest(got[1])
	if !ok {
		t.Fatalf("%v pushed into %s make %s", keys, empty, got[1])
	}
	for i, key := range keys {
		first, second := twoHomes(n, key)
		slot := slices.Index(n.Slots, key)
		if in := got[2+i]; in != numbersText(first, second, slot) || slot < 0 {
			t.Fatalf("homes %d writes %q for %s", key, in, got[1])
		}
		if out := got[2+2*len(keys)+i]; out != numbersText(first, second, -1) {
			t.Fatalf("homes %d writes %q when it has been pulled", key, out)
		}
	}
	if left := got[1+2*len(keys)]; left != empty {
		t.Fatalf("%v pulled from %s leave %s", keys, got[1], left)
	}
}

func TestAScriptPushesKeysAndPullsThem(t *testing.T) {
	placed := 0
	for turn := range 200 {
		keys := fewOf(turn%5+1, turn)
		n, _ := impl.NewNest(turn%16+1, 1, turn%7, turn%5, 3)
		if !impl.CanPlace(n, keys) {
			continue
		}
		placed++
		checkPushesAndPulls(t, impl.FormatNest(n), keys)
	}
	if placed < 50 {
		t.Errorf("only %d lists can be placed", placed)
	}
}

// A counter is a desk that is read line by line, by a switch: what lines do is told by the functions of the other chapters.
type counter struct {
	table impl.Table
	nest  impl.Nest
}

const refused = "no"

// orNo is what is written where a function returns true.
func orNo(text string, ok bool) string {
	if !ok {
		return refused
	}
	return text
}

func numbersOrNo(list []int, ok bool) string {
	return orNo(numbersText(list...), ok)
}

func textsOrNo(texts []string, ok bool) string {
	if len(texts) == 0 {
		return orNo("-", ok)
	}
	return orNo(strings.Join(texts, " | "), ok)
}

func (c *counter) becomes(x impl.Table, ok bool) string {
	if !ok {
		return refused
	}
	c.table = x
	return impl.FormatTable(x)
}

func (c *counter) nestBecomes(n impl.Nest, ok bool) string {
	if !ok {
		return refused
	}
	c.nest = n
	return impl.FormatNest(n)
}

func (c *counter) line(line string) string {
	word, rest, hasRest := strings.Cut(line, " ")
	if !hasRest {
		return c.word(word)
	}
	switch word {
	case "table":
		return c.becomes(impl.ParseTable(rest))
	case "nest":
		return c.nestBecomes(impl.ParseNest(rest))
	}
	list, ok := numbersOf(rest)
	if slices.Contains(strings.Fields(numbersWords), word) {
		if !ok {
			return refused
		}
		return c.numbers(word, list)
	}
	if slices.Contains(strings.Fields(numberWords), word) {
		if len(list) != 1 {
			return refused
		}
		return c.number(word, list[0])
	}
	if word != "way" {
		return "what"
	}
	if len(list) != 4 {
		return refused
	}
	slots, ok := impl.WayOf(list[0], impl.Kind(list[1]), list[2], list[3])
	return orNo(numbersText(slots...)+" : "+numbersText(impl.ReachOf(list[0], impl.Kind(list[1]), list[2]), impl.ShareOf(list[0], list[2])), ok)
}

func (c *counter) word(word string) string {
	x := c.table
	switch word {
	case "table":
		return impl.FormatTable(x)
	case "nest":
		return impl.FormatNest(c.nest)
	case "trim":
		return c.becomes(impl.TrimTombs(x))
	case "clean":
		return c.becomes(impl.CleanTable(x))
	case "fewest":
		return c.becomes(impl.FewestTombs(x))
	case "fair":
		return c.becomes(impl.FairOf(x))
	case "keys":
		return numbersOrNo(impl.KeysIn(x))
	case "size":
		keys, tombs, free := impl.CountSlots(x)
		return numbersText(keys, tombs, free, impl.LoadOf(x), impl.MostAway(x), impl.TotalAway(x), impl.HitVisits(x), impl.MissVisits(x), impl.WorstMiss(x))
	case "truths":
		return fmt.Sprint(impl.IsSound(x), impl.IsMade(x), impl.IsFair(x))
	case "lost":
		return numbersOrNo(impl.LostKeys(x))
	case "tombs":
		return numbersOrNo(impl.NeededTombs(x))
	case "home":
		return numbersOrNo(impl.AtHome(x))
	case "runs":
		var texts []string
		runs, ok := impl.RunsOf(x)
		for _, run := range runs {
			texts = append(texts, numbersText(run.From, run.Size))
		}
		return textsOrNo(texts, ok)
	case "order":
		return numbersOrNo(impl.MakeOrder(x))
	}
	return "what"
}

func (c *counter) numbers(word string, list []int) string {
	x, n := c.table, c.nest
	switch word {
	case "put":
		return c.becomes(impl.PutAll(x, list))
	case "drop":
		return c.becomes(impl.DropAll(x, list))
	case "shift":
		return c.becomes(impl.ShiftAll(x, list))
	case "give":
		return c.becomes(impl.FairAll(x, list))
	case "push":
		return c.nestBecomes(impl.PushAll(n, list))
	case "steps":
		texts, ok := impl.StepsFor(x, list)
		return orNo(textsOrNo(texts, true)+" : "+numbersText(impl.PutsVisits(x, list)), ok)
	case "taken":
		return numbersOrNo(impl.TakenBy(x, list))
	case "parts":
		var texts []string
		parts, ok := impl.PartsOf(n, list)
		for _, part := range parts {
			texts = append(texts, numbersText(part.Slots...)+" : "+numbersText(part.Keys...))
		}
		return textsOrNo(texts, ok)
	case "ways":
		ways := impl.WaysToPlace(n, list)
		return orNo(fmt.Sprint(ways, impl.CountPlaces(n, list), impl.MostPlaced(n, list), impl.RingsOf(n, list), impl.CanPlace(n, list)), ways != -1)
	case "tables":
		return textsOrNo(impl.TablesBy(x, list))
	case "fairs":
		return textsOrNo(impl.FairTables(x, list))
	}
	return textsOrNo(impl.NestsBy(n, list))
}

func (c *counter) number(word string, number int) string {
	x, n := c.table, c.nest
	switch word {
	case "take":
		return c.becomes(impl.FairDrop(x, number))
	case "grow":
		m, _ := impl.StartMove(x, number)
		return c.becomes(impl.EndMove(m))
	case "pull":
		return c.nestBecomes(impl.PullKey(n, number))
	case "find":
		slot, _ := impl.FindKey(x, number)
		place, _ := impl.PlaceFor(x, number)
		return orNo(numbersText(slot, impl.HomeOf(x, number), impl.VisitsFor(x, number), place, impl.FairVisits(x, number)), number < 100)
	case "moves":
		return numbersOrNo(impl.MovesBy(x, number))
	case "swaps":
		return numbersOrNo(impl.SwapsBy(x, number))
	case "pushes":
		return numbersOrNo(impl.PushesBy(n, number))
	case "homes":
		first, second := impl.HomesOf(n, number)
		slot, _ := impl.FindNest(n, number)
		return orNo(numbersText(first, second, slot), number < 100)
	case "miss":
		return orNo(numbersText(impl.MissAt(x, number), impl.FairMiss(x, number)), number < len(x.Slots))
	case "move":
		var texts []string
		m, start := impl.StartMove(x, number)
		for ok := start; ok; m, ok = impl.StepMove(m) {
			texts = append(texts, impl.FormatMove(m))
		}
		return textsOrNo(texts, start)
	}
	return numbersOrNo(impl.WholeSteps(number))
}

// A die rolls the same numbers each time that the tests run.
type die uint32

func (d *die) roll(sides int) int {
	*d = *d*1664525 + 1013904223
	return int(*d>>16) % sides
}

func (d *die) oneOf(words ...string) string {
	return words[d.roll(len(words))]
}

func (d *die) list(most int) string {
	var list []int
	for range d.roll(most + 1) {
		list = append(list, d.roll(24))
	}
	return numbersText(list...)
}

// rest fits what the table shows most of the time.
func (d *die) rest(word string) string {
	if d.roll(30) == 0 {
		return d.oneOf("", "-", "5 5", "x", "01", "7 0 1 0", "100", "1+0:.")
	}
	switch {
	case word == "table":
		return d.oneOf("1+0:. . . . . . .", "1+0:7 x 8 3 x . .", "1+0:7 14 1 8 . . .", "1+0:. 0 . 7", "3+1:. . . . . . . . . . .", "0+2:x . . 5 .", "5+0:. 1 . x . . . .")
	case word == "nest":
		return d.oneOf("2+1/1+0:. . . . . . .", "3+2/1+0:. . . . . . . . . . . .", "0+1/1+0:. . . .", "1+0/1+0:. . . . .")
	case word == "way":
		return numbersText(1+d.roll(16), d.roll(4), d.roll(17), d.roll(8))
	case word == "push":
		return d.list(2)
	case slices.Contains(strings.Fields(numbersWords), word):
		return d.list(5)
	}
	return numbersText(d.roll(20))
}

func (d *die) line() string {
	alone, rest := strings.Fields(aloneWords), strings.Fields(restWords)
	switch d.roll(12) {
	case 0, 1, 2:
		return d.oneOf(alone...)
	case 3, 4, 5, 6:
		// Words that change what the desk has come more often than the others.
		word := d.oneOf("put", "put", "drop", "shift", "give", "take", "grow", "push", "pull")
		return word + " " + d.rest(word)
	case 7:
		return d.oneOf("", "foo", "foo 5", "put", "keys 5", " ", "table ")
	}
	word := d.oneOf(rest...)
	return word + " " + d.rest(word)
}

// TestScriptsLineByLine compares many scripts with a desk that is read in another way.
func TestScriptsLineByLine(t *testing.T) {
	d := die(13)
	writes := map[string]int{}
	for range 1000 {
		table, _ := impl.ParseTable("1+0:. . . . . . .")
		nest, _ := impl.ParseNest("2+1/1+0:. . . . . . .")
		c := counter{table: table, nest: nest}
		var said, want []string
		for range 40 {
			line := d.line()
			said = append(said, line)
			if line == "" {
				continue
			}
			told := c.line(line)
			want = append(want, told)
			word, _, hasRest := strings.Cut(line, " ")
			if told != refused && told != "what" {
				writes[fmt.Sprint(word, hasRest)]++
			}
		}
		if got := written(t, said...); !slices.Equal(got, want) {
			t.Fatalf("%q writes %q, not %q", said, got, want)
		}
	}
	for _, word := range strings.Fields(aloneWords) {
		if writes[word+"false"] < 30 {
			t.Errorf("%s tells something %d times only", word, writes[word+"false"])
		}
	}
	for _, word := range strings.Fields(restWords) {
		if writes[word+"true"] < 30 {
			t.Errorf("%s with a rest tells something %d times only", word, writes[word+"true"])
		}
	}
}

// TestScriptsKeepNothing runs scripts one behind the other: each begins with the same table and nest.
func TestScriptsKeepNothing(t *testing.T) {
	const first = "table\nnest\n"
	want := "1+0:. . . . . . .\n2+1/1+0:. . . . . . .\n"
	checkScript(t, first, want)
	checkScript(t, "put 5\npush 5", "1+0:. . . . . 5 .\n2+1/1+0:. . . . . 5 .\n")
	checkScript(t, first, want)
	checkScript(t, "table 0+0:x\nnest 0+0/0+0:1", "0+0:x\n0+0/0+0:1\n")
	checkScript(t, first, want)
}

func TestScriptsLeaveNoGoroutines(t *testing.T) {
	checkGoroutinesEnd(t, func() {
		impl.RunScript("put 1 2 3\nmove 9\ngrow 8\ngrow 2\nsteps 4 5\ntables 4 5\nfairs 4 5\nnests 4 5\nfewest\ntrim\npush 4 5\npushes 12\nput x\n")
	})
}
