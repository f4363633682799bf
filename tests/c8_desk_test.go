package tests

import (
	"slices"
	"strings"
	"testing"

	"loop.example/namedflags/impl"
)

// doorsText is the text of doors, with a word for the bound.
func doorsText(word string) string {
	return "flag " + word + "\nin = 4\nboth = 6\nout = 2\nnone = 0\nwide = 74\nenter = 4\npair = 6\nlock = 256\n"
}

// deskCase is a line with its answers under the bounds strict, fit, eject and keep.
type deskCase struct {
	line string
	want []string
}

// asks returns a line with its answers; one answer is that under each bound.
func asks(line string, want ...string) deskCase {
	if len(want) == 1 {
		want = slices.Repeat(want, 4)
	}
	return deskCase{line, want}
}

// checkNothing checks that lines ask doors nothing under each bound.
func checkNothing(t *testing.T, lines []string) {
	t.Helper()
	var list []deskCase
	for _, line := range lines {
		list = append(list, asks(line, "what"))
	}
	checkCases(t, doorsText, list)
}

// checkCases checks lines about the class of a text under each bound, each alone, and as many together as there may be.
func checkCases(t *testing.T, text func(word string) string, list []deskCase) {
	t.Helper()
	for bound, word := range boundWords {
		for chunk := range slices.Chunk(list, impl.MaxDesk) {
			var lines, want []string
			for _, k := range chunk {
				checkDesk(t, text(word), []string{k.line}, k.want[bound])
				lines, want = append(lines, k.line), append(want, k.want[bound])
			}
			checkDesk(t, text(word), lines, want...)
		}
	}
}

func TestDeskMakes(t *testing.T) {
	checkCases(t, doorsText, []deskCase{
		asks("make 0", "none"), asks("make 2", "out"), asks("make 4", "in"), asks("make 6", "out|in"),
		asks("make 8", "8"), asks("make 74", "out|72"), asks("make 334", "out|in|lock|72"),
		// Bits without a name: 1, 16, 32, 128 and 512 up.
		asks("make 1", "wrong", "none", "number 1", "1"),
		asks("make 3", "wrong", "out", "number 3", "out|1"),
		asks("make 5", "wrong", "in", "number 5", "in|1"),
		asks("make 335", "wrong", "out|in|lock|72", "number 335", "out|in|lock|73"),
		asks("make 512", "wrong", "none", "number 512", "512"),
		asks("make 1000", "wrong", "lock|72", "number 1000", "lock|744"),
		asks("make 4094", "wrong", "out|in|lock|72", "number 4094", "out|in|lock|3832"),
		asks("make 4095", "wrong", "out|in|lock|72", "number 4095", "out|in|lock|3833"),
		// Numbers below 0 stand for all bits but some.
		asks("make -1", "out|in|lock|72", "out|in|lock|72", "out|in|lock|72", "out|in|lock|249"),
		asks("make -2", "out|in|lock|72", "out|in|lock|72", "out|in|lock|72", "out|in|lock|248"),
		asks("make -5", "out|lock|72", "out|lock|72", "out|lock|72", "out|lock|249"),
		asks("make -10", "out|in|lock|64", "out|in|lock|64", "out|in|lock|64", "out|in|lock|240"),
		asks("make -257", "out|in|72", "out|in|72", "out|in|72", "out|in|249"),
		asks("make -335", "none", "none", "none", "177"),
		asks("make -512", "none"),
		asks("make -4095", "none", "none", "none", "1"),
		asks("make -4096", "none"),
	})
}

func TestDeskMakesNothing(t *testing.T) {
	lines := []string{"make", "make ", "make  ", " make 4", "make  4", "make 4 ", "make 4 4", "make 4 in", "make4", "make\t4", "make\n4", "make 4\n", "\nmake 4", "make 4\r", "Make 4", "MAKE 4", "mak 4", "makes 4", "make=4", "4 make"}
	for _, s := range []string{
		// Beyond -MaxFlag-1 and MaxFlag.
		"4096", "4097", "5000", "8191", "8192", "10000", "-4097", "-4098", "-5000", "-8192", "-10000",
		"9223372036854775807", "9223372036854775808", "-9223372036854775808", "-9223372036854775809", "18446744073709551616", "18446744073709551620", "4294967300", strings.Repeat("4", 5000), "-" + strings.Repeat("4", 5000),
		// Zeros and signs ahead.
		"-0", "00", "01", "04", "004", "-04", "-00", "00000000000000000000000000004", "+4", "+0", "--4", "-+4", "- 4", "-", "+",
		// Others.
		"in", "none", "in|out", "4|2", "0x4", "4.0", "4.", "4e0", "1_0", "0b1", "0o4", "4a", "a4", "٤", "４", "²", "4\x00", "NaN", "!4", "~4",
	} {
		lines = append(lines, "make "+s)
	}
	checkNothing(t, lines)
}

func TestDeskAsksAboutOneValue(t *testing.T) {
	checkCases(t, doorsText, []deskCase{
		asks("value in", "4"), asks("value none", "0"), asks("value 0", "0"), asks("value both", "6"), asks("value in|out", "6"), asks("value 8|both|8", "14"), asks("value wide|lock|4", "334"), asks("value 334", "334"),
		asks("value 1", "what", "what", "what", "1"), asks("value 4095", "what", "what", "what", "4095"), asks("value in|512", "what", "what", "what", "516"),
		asks("show in", "in"), asks("show enter", "in"), asks("show none", "none"), asks("show 0", "none"), asks("show 6", "out|in"), asks("show both", "out|in"), asks("show in|out", "out|in"), asks("show wide", "out|72"), asks("show 8", "8"), asks("show 334", "out|in|lock|72"),
		asks("show 1", "what", "what", "what", "1"), asks("show in|1", "what", "what", "what", "in|1"), asks("show 4095", "what", "what", "what", "out|in|lock|3833"),
		asks("short in", "in"), asks("short enter", "in"), asks("short none", "none"), asks("short 0", "none"), asks("short 6", "both"), asks("short in|out", "both"), asks("short pair", "both"), asks("short 74", "wide"), asks("short 8", "8"), asks("short 14", "both|8"), asks("short 334", "in|wide|lock"),
		asks("short 1", "what", "what", "what", "1"), asks("short 335", "what", "what", "what", "in|wide|lock|1"),
		asks("not in", "out|lock|72", "out|lock|72", "out|lock|72", "out|lock|249"),
		asks("not none", "out|in|lock|72", "out|in|lock|72", "out|in|lock|72", "out|in|lock|249"),
		asks("not 6", "lock|72", "lock|72", "lock|72", "lock|249"),
		asks("not wide", "in|lock", "in|lock", "in|lock", "in|lock|177"),
		asks("not 334", "none", "none", "none", "177"),
		asks("not 1", "what", "what", "what", "out|in|lock|248"),
		asks("not 511", "what", "what", "what", "none"),
		asks("not 4095", "what", "what", "what", "none"),
	})
}

func TestDeskAsksAboutTwoValues(t *testing.T) {
	checkCases(t, doorsText, []deskCase{
		asks("or in out", "out|in"), asks("or out in", "out|in"), asks("or in in", "in"), asks("or none 0", "none"), asks("or none lock", "lock"), asks("or 8 in", "in|8"), asks("or 8 64", "72"), asks("or wide in|lock", "out|in|lock|72"), asks("or 2|4 8|64", "out|in|72"),
		asks("or 1 2", "what", "what", "what", "out|1"), asks("or 2 1", "what", "what", "what", "out|1"), asks("or 4095 in", "what", "what", "what", "out|in|lock|3833"),
		asks("and both wide", "out"), asks("and wide both", "out"), asks("and in out", "none"), asks("and 0 in", "none"), asks("and enter pair", "in"), asks("and wide 8", "8"), asks("and 334 74|lock", "out|lock|72"),
		asks("and 4095 in", "what", "what", "what", "in"), asks("and in 4095", "what", "what", "what", "in"), asks("and 511 3584", "what", "what", "what", "none"),
		asks("less both out", "in"), asks("less out both", "none"), asks("less in in", "none"), asks("less wide out", "72"), asks("less wide 8", "out|64"), asks("less 334 in|8", "out|lock|64"), asks("less in none", "in"), asks("less none in", "none"),
		asks("less 4095 511", "what", "what", "what", "3584"), asks("less 511 4095", "what", "what", "what", "none"), asks("less 1 in", "what", "what", "what", "1"), asks("less in 1", "what", "what", "what", "in"),
	})
}

func TestDeskAsksNothing(t *testing.T) {
	checkNothing(t, []string{
		"", " ", "  ", "help", "what", "wrong", "number 4", "in", "4", "in|out", "in out", "flag strict", "in = 4", "xor in out", "\n", "\xff", "\x00",
		strings.Repeat(" ", 5000), strings.Repeat("in ", 5000), strings.Repeat("a", 5000), "show" + strings.Repeat(" in", 5000), "or" + strings.Repeat(" in", 5000),
	})
	for _, verb := range []string{"value", "show", "short", "not"} {
		checkBrokenLines(t, verb, verb+" in")
		checkNothing(t, []string{verb + " in out", verb + " in in", verb + " 0 0"})
	}
	for _, verb := range []string{"or", "and", "less"} {
		checkBrokenLines(t, verb, verb+" in out")
		checkNothing(t, []string{verb + " in", verb + " 0", verb + " in|out", verb + " in ", verb + "  in", verb + " in  out", verb + " in out in", verb + " 0 0 0"})
	}
}

// checkBrokenLines checks what is near to a line that asks something with a verb.
func checkBrokenLines(t *testing.T, verb, right string) {
	t.Helper()
	rest := right[len(verb):]
	lines := []string{
		// A word too few, or too many.
		verb, verb + " ", verb + " in out lock both", right + " " + verb, right + " in out lock", strings.TrimPrefix(rest, " "),
		// Spaces at the beginning, at the end, and twice in a row.
		" " + right, "  " + right, right + " ", right + "  ", verb + " " + rest, strings.ReplaceAll(right, " ", "  "), strings.ReplaceAll(right, " ", "   "),
		// Another first word, or the words in another order.
		verb[1:] + rest, verb[:len(verb)-1] + rest, strings.ToUpper(verb) + rest, "x" + right, verb + "s" + rest, strings.TrimPrefix(rest, " ") + " " + verb, strings.ReplaceAll(right, " ", ""),
		// Other signs around the words.
		right + "\n", "\n" + right, right + "\r", right + "\t", right + "\x00", strings.ReplaceAll(right, " ", "\t"), strings.ReplaceAll(right, " ", "\n"), strings.ReplaceAll(right, " ", "\u00a0"), verb + " =" + rest,
	}
	// Texts that are no values.
	for _, s := range []string{"x", "inn", "In", "|", "in|", "|in", "in||out", "in|x", "", "-1", "-0", "04", "00", "+4", "4096", "9223372036854775808", "in,out", "!in", "*", "in|4096", "in|04", "\xff", "é"} {
		lines = append(lines, verb+" "+s, verb+" "+s+" in", verb+" in "+s)
	}
	checkNothing(t, lines)
}

// TestDeskOfNamesThatAreWords checks that names that are first words, too, are names behind one.
func TestDeskOfNamesThatAreWords(t *testing.T) {
	text := func(word string) string { return "flag " + word + "\nmake\nshow\nor\nnot = 6\nwhat = 0\nwrong = 5\n" }
	checkCases(t, text, []deskCase{
		asks("show make", "make"), asks("show show", "show"), asks("show not", "show|or"), asks("or or or", "or"), asks("or make not", "make|show|or"), asks("not not", "make"), asks("not make", "show|or"), asks("and not wrong", "or"),
		asks("make make", "what"), asks("make or", "what"), asks("make 0", "what"), asks("show wrong", "make|or"), asks("short 5", "wrong"), asks("short 0", "what"), asks("value what", "0"), asks("what what", "what"), asks("wrong make", "what"), asks("show", "what"), asks("or", "what"), asks("make 7", "make|show|or"),
	})
	checkDesk(t, "flag keep\nenum\nflag\nkeep\n", []string{"show 7", "or enum keep", "keep 1", "flag keep", "enum"}, "enum|flag|keep", "enum|keep", "what", "what", "what")
}

func TestDeskWithoutNames(t *testing.T) {
	text := func(word string) string { return "flag " + word + "\n" }
	checkCases(t, text, []deskCase{
		asks("make 0", "0"), asks("make 1", "wrong", "0", "number 1", "1"), asks("make 4095", "wrong", "0", "number 4095", "4095"), asks("make -1", "0"), asks("make -2", "0"), asks("make -4096", "0"), asks("make 4096", "what"), asks("make -4097", "what"),
		asks("value 0", "0"), asks("value 7", "what", "what", "what", "7"), asks("show 0", "0"), asks("show 6", "what", "what", "what", "6"), asks("short 0|0", "0"), asks("not 0", "0"), asks("not 9", "what", "what", "what", "0"),
		asks("or 0 0", "0"), asks("or 1 2", "what", "what", "what", "3"), asks("and 3 6", "what", "what", "what", "2"), asks("less 7 2", "what", "what", "what", "5"), asks("show a", "what"), asks("", "what"),
	})
}

func TestDeskOfItemsAlone(t *testing.T) {
	checkDesk(t, "flag eject\na\nb\nab = 3\nc\n", []string{"value c", "show ab", "short 7", "make 8", "make 7", "make -1", "value a|b|c"}, "4", "a|b", "ab|c", "number 8", "a|b|c", "a|b|c", "7")
	all := "flag strict\n" + strings.Join(strings.Split("abcdefghijkl", ""), "\n") + "\n"
	checkDesk(t, all, []string{"make 4095", "make -4096", "not a|b|c|d|e|f", "value l", "less 4095 a|l"}, "a|b|c|d|e|f|g|h|i|j|k|l", "0", "g|h|i|j|k|l", "2048", "b|c|d|e|f|g|h|i|j|k")
}

func TestDeskOfManyLines(t *testing.T) {
	for _, s := range []string{doorsText("strict"), doorsText("keep"), "flag fit\n", "", "enum\n", "flag strict\na = 01\n"} {
		if out := impl.RunDesk(s, nil) + impl.RunDesk(s, []string{}); out != "" {
			t.Errorf("RunDesk(%q) of no lines = %q", s, out)
		}
		for _, count := range []int{21, 22, 40, 1000} {
			if out := impl.RunDesk(s, slices.Repeat([]string{"make 0"}, count)) + impl.RunDesk(s, make([]string, count)); out != "" {
				t.Errorf("RunDesk(%q) of %d lines = %q", s, count, out)
			}
		}
	}
	var lines, want []string
	for range impl.MaxDesk {
		checkDesk(t, doorsText("fit"), lines, want...)
		lines, want = append(lines, "show 6"), append(want, "out|in")
	}
	checkDesk(t, doorsText("fit"), lines, want...)
	checkDesk(t, "", lines, slices.Repeat([]string{"wrong"}, impl.MaxDesk)...)
	checkDesk(t, doorsText("fit"), make([]string, impl.MaxDesk), slices.Repeat([]string{"what"}, impl.MaxDesk)...)
}

func TestDeskOfTextsThatAreNoClass(t *testing.T) {
	lines := []string{"make 0", "make 4", "make 01", "show 0", "value a", "", " ", "help", "or a b", "\n"}
	want := slices.Repeat([]string{"wrong"}, len(lines))
	for _, s := range []string{"", "x", "\n", "enum\n", "enum\na = 4\n", "flag\n", "flag loose\n", "flag strict", "flag strict\na", "flag strict\n\n", "flag keep\na = 01\n", "flag keep\na\na\n", "flag fit\na = -1\n", "flag eject\na = 4096\n", "flag eject\na = 4095\nb\n", "flag strict\r\n"} {
		checkDesk(t, s, lines, want...)
		checkDesk(t, s, nil)
	}
}

func TestDesksAnswerAsTheDocumentSays(t *testing.T) {
	answered := map[string]int{}
	desks(func(f impl.Flag, lines []string) {
		var want []string
		for _, line := range lines {
			want = append(want, plainAnswer(f, line))
			answered[strings.SplitN(line, " ", 2)[0]]++
			answered[strings.SplitN(want[len(want)-1], " ", 2)[0]]++
		}
		checkDesk(t, plainFlagText(f), lines, want...)
	})
	for _, s := range []string{"make", "value", "show", "short", "not", "or", "and", "less", "what", "wrong", "number"} {
		if answered[s] < 500 {
			t.Errorf("only %d lines or answers are %s", answered[s], s)
		}
	}
}

// TestDeskMakesAllNumbers checks all numbers that make can have, and some beyond.
func TestDeskMakesAllNumbers(t *testing.T) {
	for _, f := range []impl.Flag{doors(impl.BdStrict), doors(impl.BdFit), doors(impl.BdEject), doors(impl.BdKeep)} {
		var lines, want []string
		for n := -impl.MaxFlag - 4; n <= impl.MaxFlag+4; n++ {
			lines = append(lines, makeLine(n))
			want = append(want, plainAnswer(f, makeLine(n)))
			if len(lines) == impl.MaxDesk {
				checkDesk(t, plainFlagText(f), lines, want...)
				lines, want = nil, nil
			}
		}
		checkDesk(t, plainFlagText(f), lines, want...)
	}
}
