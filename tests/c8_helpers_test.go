package tests

import (
	"fmt"
	"regexp"
	"slices"
	"strconv"
	"strings"
	"testing"

	"loop.example/namedflags/impl"
)

// boundWords are the words of allBounds.
var boundWords = []string{"strict", "fit", "eject", "keep"}

// firstLines are the first lines of all texts.
var firstLines = []string{"enum", "flag strict", "flag fit", "flag eject", "flag keep"}

// itemPattern is a line of a name, alone or with a value.
var itemPattern = regexp.MustCompile(`^([a-z]{1,6})(?: = (0|-?[1-9][0-9]*))?$`)

// makePattern is a line that makes a value, askPattern one with one text or two.
var (
	makePattern = regexp.MustCompile(`^make (0|-?[1-9][0-9]*)$`)
	askPattern  = regexp.MustCompile(`^(value|show|short|not|or|and|less) ([^ ]+)(?: ([^ ]+))?$`)
)

// plainClassText returns the text of definitions behind a first line.
func plainClassText(head string, list []impl.Def) string {
	lines := []string{head}
	for _, d := range list {
		lines = append(lines, fmt.Sprintf("%s = %d", d.Name, d.Value))
	}
	return strings.Join(lines, "\n") + "\n"
}

// flagHead returns the first line of the text of a valid class.
func flagHead(f impl.Flag) string { return "flag " + boundWords[f.Bound] }

// plainFlagText returns what the document says that FlagText returns for a valid class.
func plainFlagText(f impl.Flag) string { return plainClassText(flagHead(f), f.Defs) }

// plainItems returns the items of a text behind a first line, and whether it is one with at most MaxItems names, each once.
func plainItems(s, head string) ([]impl.Item, bool) {
	rest, ok := strings.CutPrefix(s, head+"\n")
	if !ok || rest != "" && !strings.HasSuffix(rest, "\n") {
		return nil, false
	}
	var items []impl.Item
	met := map[string]bool{}
	for line := range strings.Lines(rest) {
		found := itemPattern.FindStringSubmatch(strings.TrimSuffix(line, "\n"))
		if found == nil || met[found[1]] {
			return nil, false
		}
		met[found[1]] = true
		if found[2] == "" {
			items = append(items, auto(found[1]))
			continue
		}
		n, err := strconv.Atoi(found[2])
		if err != nil {
			return nil, false
		}
		items = append(items, own(found[1], n))
	}
	return items, len(items) <= impl.MaxItems
}

// plainParseEnum returns what the document says that ParseEnum returns.
func plainParseEnum(s string) (impl.Enum, bool) {
	items, ok := plainItems(s, "enum")
	var e impl.Enum
	for i, item := range items {
		n := item.Value
		switch {
		case item.Auto && i == 0:
			n = 1
		case item.Auto:
			n = 1 + slices.MaxFunc(e.Defs, func(a, b impl.Def) int { return a.Value - b.Value }).Value
		}
		if plainBeyond(n) {
			return impl.Enum{}, false
		}
		e.Defs = append(e.Defs, def(item.Name, n))
	}
	if !ok {
		return impl.Enum{}, false
	}
	return e, true
}

// plainParseFlag returns what the document says that ParseFlag returns.
func plainParseFlag(s string) (impl.Flag, bool) {
	for bound, word := range boundWords {
		items, ok := plainItems(s, "flag "+word)
		if !ok {
			continue
		}
		values, ok := plainBuild(items)
		if !ok {
			return impl.Flag{}, false
		}
		f := impl.Flag{Bound: bound}
		for i, n := range values {
			f.Defs = append(f.Defs, def(items[i].Name, n))
		}
		return f, true
	}
	return impl.Flag{}, false
}

// plainMakeAnswer returns the answer of a valid class to a number to make, as it is written.
func plainMakeAnswer(f impl.Flag, number string) string {
	n, err := strconv.Atoi(number)
	if err != nil || n < -impl.MaxFlag-1 || n > impl.MaxFlag {
		return "what"
	}
	switch value, how := plainMake(plainMask(f.Defs), f.Bound, n); how {
	case impl.HwOk:
		return plainShow(f, value)
	case impl.HwNumber:
		return "number " + number
	default:
		return "wrong"
	}
}

// plainAnswer returns what the document says that a valid class answers to a line.
func plainAnswer(f impl.Flag, line string) string {
	if found := makePattern.FindStringSubmatch(line); found != nil {
		return plainMakeAnswer(f, found[1])
	}
	found := askPattern.FindStringSubmatch(line)
	if found == nil {
		return "what"
	}
	a, ok := plainRead(f, found[2])
	b, both := plainRead(f, found[3])
	two := slices.Contains([]string{"or", "and", "less"}, found[1])
	if !ok || two != (found[3] != "") || two && !both {
		return "what"
	}
	switch found[1] {
	case "value":
		return fmt.Sprint(a)
	case "show":
		return plainShow(f, a)
	case "short":
		return plainText(f, a, plainShort(f, a))
	case "not":
		return plainShow(f, plainLess(plainWhole(f), a))
	case "or":
		return plainShow(f, plainOr(a, b))
	case "and":
		return plainShow(f, plainAnd(a, b))
	default:
		return plainShow(f, plainLess(a, b))
	}
}

// checkEnumOf checks what is read of a text as an enumeration.
func checkEnumOf(t *testing.T, s string, want impl.Enum, fits bool) {
	t.Helper()
	if e, ok := impl.ParseEnum(s); ok != fits || !sameEnum(e, want) || !ok && e.Defs != nil {
		t.Fatalf("ParseEnum(%.300q) = %v, %v, want %v, %v", s, e, ok, want, fits)
	}
}

// checkFlagOf checks what is read of a text as a class of flags.
func checkFlagOf(t *testing.T, s string, want impl.Flag, fits bool) {
	t.Helper()
	if f, ok := impl.ParseFlag(s); ok != fits || !sameFlag(f, want) || !ok && f.Defs != nil {
		t.Fatalf("ParseFlag(%.300q) = %v, %v, want %v, %v", s, f, ok, want, fits)
	}
}

// checkNoClass checks that a text is neither an enumeration nor a class of flags, and that each line about it is wrong.
func checkNoClass(t *testing.T, s string) {
	t.Helper()
	checkEnumOf(t, s, impl.Enum{}, false)
	checkFlagOf(t, s, impl.Flag{}, false)
	checkDesk(t, s, []string{"make 0", "help"}, "wrong", "wrong")
}

// checkDesk checks the answers to lines.
func checkDesk(t *testing.T, s string, lines []string, want ...string) {
	t.Helper()
	all := ""
	for _, answer := range want {
		all += answer + "\n"
	}
	if got := impl.RunDesk(s, lines); got != all {
		t.Errorf("RunDesk(%.300q, %.3000q) = %q, want %q", s, lines, got, all)
	}
}

// someClassText returns a text with a first line and at most MaxItems lines with different names, as the generator has it.
// Values can be beyond what is valid.
func someClassText(g *generator, head string) string {
	text := head + "\n"
	spread := 1 << (1 + g.below(12))
	for i := range g.below(impl.MaxItems + 1) {
		text += letters[i : i+1]
		switch g.below(8) {
		case 0, 1:
			text += fmt.Sprint(" = ", g.below(spread))
		case 2:
			text += fmt.Sprint(" = ", 1<<g.below(12))
		case 3:
			text += fmt.Sprint(" = ", g.below(40)-g.below(2)*20)
		}
		text += "\n"
	}
	return text
}

// classTexts calls use with texts that most often are enumerations or classes of flags, and with their definitions written out.
func classTexts(use func(s string)) {
	g := generator(41)
	for _, e := range append(validEnums(), mixedEnums()...) {
		use(plainClassText("enum", e.Defs))
	}
	for _, f := range append(validFlags(), flagsToConvert()...) {
		use(plainFlagText(f))
	}
	for range 4000 {
		use(someClassText(&g, "enum"))
		use(someClassText(&g, "flag "+boundWords[g.below(4)]))
	}
}

// brokenTexts calls use with texts in which one sign is left out, put in, or another one.
func brokenTexts(use func(s string)) {
	g := generator(42)
	signs := " =-+019az\n\r|\t\x00\xff"
	for range 4000 {
		s := someClassText(&g, firstLines[g.below(5)])
		for range 4 {
			i, k := g.below(len(s)), g.below(len(signs))
			use(s[:i] + s[i+1:])
			use(s[:i] + signs[k:k+1] + s[i:])
			use(s[:i] + signs[k:k+1] + s[i+1:])
			use(s[:i])
		}
	}
}

// someLine returns a line that most often asks a class something, as the generator has it.
func someLine(g *generator, f impl.Flag) string {
	if g.below(3) == 0 {
		return fmt.Sprint("make ", g.below(2*impl.MaxFlag+4)-impl.MaxFlag-3)
	}
	words := []string{[]string{"value", "show", "short", "not", "or", "and", "less", "make", "xor", ""}[g.below(10)]}
	for range 1 + g.below(2) {
		switch g.below(3) {
		case 0:
			words = append(words, someText(g, f))
		case 1:
			words = append(words, fmt.Sprint(someValue(g, f)))
		default:
			words = append(words, plainShow(f, someValue(g, f)))
		}
	}
	if g.below(30) == 0 {
		words = slices.Insert(words, g.below(len(words)+1), "")
	}
	return strings.Join(words, " ")
}

// desks calls use with classes of all kinds, and with lines about them.
func desks(use func(f impl.Flag, lines []string)) {
	g := generator(43)
	for _, f := range append(smallFlags(), append(flagsOfRests(), validFlags()...)...) {
		for range 2 {
			var lines []string
			for range g.below(impl.MaxDesk + 1) {
				lines = append(lines, someLine(&g, f))
			}
			use(f, lines)
		}
	}
}

// makeLine returns the line that makes a number.
func makeLine(n int) string { return fmt.Sprint("make ", n) }
