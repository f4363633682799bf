package tests

import (
	"slices"
	"strings"
	"testing"

	"loop.example/namedflags/impl"
)

// textArgs are the arguments of the functions of chapter 8.
type textArgs struct {
	e     impl.Enum
	f     impl.Flag
	s     string
	lines []string
}

// textCalls are the functions of chapter 8; each overwrites the result and returns what it was.
var textCalls = map[string]func(x textArgs) []any{
	"EnumText":  func(x textArgs) []any { return []any{impl.EnumText(x.e)} },
	"FlagText":  func(x textArgs) []any { return []any{impl.FlagText(x.f)} },
	"ParseEnum": func(x textArgs) []any { return takenEnum(impl.ParseEnum(x.s)) },
	"ParseFlag": func(x textArgs) []any { return takenFlag(impl.ParseFlag(x.s)) },
	"RunDesk":   func(x textArgs) []any { return []any{impl.RunDesk(x.s, x.lines)} },
}

// checkTextCalls calls all functions twice and checks that what they return is not what they were given.
// The arguments have spare capacity, with marks in it.
func checkTextCalls(t *testing.T, x textArgs) {
	t.Helper()
	checks := make([]func() bool, 3)
	x.e.Defs, checks[0] = kept(x.e.Defs, markDef)
	x.f.Defs, checks[1] = kept(x.f.Defs, markDef)
	x.lines, checks[2] = kept(x.lines, "make 1")
	for name, call := range textCalls {
		quietly(t, name, func() {
			first, second := call(x), call(x)
			if !slices.Equal(first, second) {
				t.Fatalf("%s(%.3000v) = %v, and then %v", name, x, first, second)
			}
		})
		for _, same := range checks {
			if !same() {
				t.Fatalf("%s(%.3000v) writes into an argument, or shares memory with it", name, x)
			}
		}
	}
}

func TestNoPanicAndNoWriteInChapter8(t *testing.T) {
	enums := append(invalidEnums(), impl.Enum{}, defs([]impl.Def{}...), colours(), fullEnum(), enumOf(1000, -1000))
	flags := append(invalidFlags(), impl.Flag{}, doors(impl.BdStrict), rests(impl.BdKeep), fullFlag(impl.BdFit), impl.Flag{Bound: impl.BdKeep})
	texts := []string{"", "\n", "enum", "enum\n", "enum\na\n", "enum\na = ", "enum\n = \n", "enum\n\n", "flag", "flag \n", "flag keep\n", "flag keep", "flag fit\na\nb = 4\n", "flag eject\na = 4095\nb\n", doorsText("strict"), "\xff\n", "enum\n\xff\n", "flag keep\n\xff = 1\n", string(make([]byte, 5000)), strings.Repeat("\n", 5000), strings.Repeat("enum\n", 5000), "enum\n" + strings.Repeat("a = 1\n", 5000), "enum\na = " + strings.Repeat("9", 5000) + "\n"}
	lists := [][]string{nil, {}, {""}, {" "}, {"\xff"}, {"\n"}, {"make"}, {"make "}, {"make -"}, {"make 0", "make -4096", "make -4097"}, {"show", "show ", "show |", "or", "or  ", "or a", "less 1 2 3"}, linesThatAreNone[:20], slices.Repeat([]string{"show 0"}, impl.MaxDesk), make([]string, impl.MaxDesk+1), make([]string, 5000), {strings.Repeat(" ", 5000)}, {"show " + strings.Repeat("|", 5000)}, {"make " + strings.Repeat("1", 5000)}}
	for i, f := range flags {
		checkTextCalls(t, textArgs{enums[i%len(enums)], f, texts[i%len(texts)], lists[i%len(lists)]})
	}
	for i, e := range enums {
		checkTextCalls(t, textArgs{e, flags[i%len(flags)], plainClassText("enum", e.Defs), lists[i%len(lists)]})
		checkTextCalls(t, textArgs{e: e, s: plainClassText("flag keep", e.Defs), lines: lists[i%len(lists)]})
	}
	for _, s := range texts {
		for _, lines := range lists {
			checkTextCalls(t, textArgs{s: s, lines: lines})
		}
	}
}

func TestNoSharingInChapter8(t *testing.T) {
	g := generator(44)
	desks(func(f impl.Flag, lines []string) {
		checkTextCalls(t, textArgs{someEnum(&g), f, plainFlagText(f), lines})
	})
	calls := 0
	classTexts(func(s string) {
		if calls++; calls%4 == 0 {
			checkTextCalls(t, textArgs{s: s, lines: []string{"make -1"}})
		}
	})
}

// TestMarksAreLeftOutOfClassTexts checks that what lies behind the arguments is no part of them.
func TestMarksAreLeftOutOfClassTexts(t *testing.T) {
	list, _ := spare([]impl.Def{def("a", 2)}, def("b", 1))
	if s := impl.EnumText(impl.Enum{Defs: list}) + impl.FlagText(impl.Flag{Defs: list}); s != "enum\na = 2\nflag strict\na = 2\n" {
		t.Errorf("EnumText and FlagText = %q", s)
	}
	lines, _ := spare([]string{"make 2"}, "make 0")
	checkDesk(t, "flag strict\na = 2\n", lines, "a")
	checkDesk(t, "", lines, "wrong")
	full, _ := spare(slices.Repeat([]string{"show a"}, impl.MaxDesk), "show a")
	checkDesk(t, "flag strict\na = 2\n", full, slices.Repeat([]string{"a"}, impl.MaxDesk)...)
}
