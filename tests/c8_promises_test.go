package tests

import (
	"slices"
	"strings"
	"testing"

	"loop.example/namedflags/impl"
)

// checkLineCount checks that a text has a newline behind each line, and how many there are.
func checkLineCount(t *testing.T, s string, want int) {
	t.Helper()
	if strings.Count(s, "\n") != want || !strings.HasSuffix("\n"+s, "\n") {
		t.Fatalf("%q has not %d lines", s, want)
	}
}

func TestP86EnumerationsAreReadBack(t *testing.T) {
	for _, e := range append(validEnums(), mixedEnums()...) {
		s := impl.EnumText(e)
		checkLineCount(t, s, len(e.Defs)+1)
		if back, ok := impl.ParseEnum(s); !ok || !sameEnum(back, e) {
			t.Fatalf("EnumText(%v) = %q, of which ParseEnum = %v, %v", e, s, back, ok)
		}
	}
}

func TestP87ClassesOfFlagsAreReadBack(t *testing.T) {
	for _, f := range append(validFlags(), flagsToConvert()...) {
		s := impl.FlagText(f)
		checkLineCount(t, s, len(f.Defs)+1)
		if back, ok := impl.ParseFlag(s); !ok || !sameFlag(back, f) {
			t.Fatalf("FlagText(%v) = %q, of which ParseFlag = %v, %v", f, s, back, ok)
		}
	}
}

func TestP88TextsOfEnumerationsAreMadeWhole(t *testing.T) {
	read, made := 0, 0
	classTexts(func(s string) {
		e, ok := impl.ParseEnum(s)
		if !ok {
			return
		}
		read++
		whole := impl.EnumText(e)
		if again, ok := impl.ParseEnum(whole); !ok || !sameEnum(again, e) {
			t.Fatalf("ParseEnum(%q) = %v, and of EnumText of that %v, %v", s, e, again, ok)
		}
		checkLineCount(t, s, strings.Count(whole, "\n"))
		for _, text := range []string{s, whole} {
			if f, ok := impl.ParseFlag(text); ok || f.Defs != nil || f.Bound != 0 {
				t.Fatalf("ParseFlag(%q) = %v, %v", text, f, ok)
			}
		}
		if whole != s {
			made++
		}
	})
	if read < 3000 || made < 1000 {
		t.Errorf("only %d texts are read, %d of them are made whole", read, made)
	}
}

func TestP89TextsOfClassesAreMadeWhole(t *testing.T) {
	read, made := 0, 0
	classTexts(func(s string) {
		f, ok := impl.ParseFlag(s)
		if !ok {
			return
		}
		read++
		whole := impl.FlagText(f)
		if again, ok := impl.ParseFlag(whole); !ok || !sameFlag(again, f) {
			t.Fatalf("ParseFlag(%q) = %v, and of FlagText of that %v, %v", s, f, again, ok)
		}
		checkLineCount(t, s, strings.Count(whole, "\n"))
		for _, text := range []string{s, whole} {
			if e, ok := impl.ParseEnum(text); ok || e.Defs != nil {
				t.Fatalf("ParseEnum(%q) = %v, %v", text, e, ok)
			}
		}
		if whole != s {
			made++
		}
	})
	if read < 3000 || made < 1000 {
		t.Errorf("only %d texts are read, %d of them are made whole", read, made)
	}
}

func TestP90EachLineHasAnAnswer(t *testing.T) {
	odd := []string{"", "\n", "show 0\n", "make\n4", "\r\n", strings.Repeat("\n", 100)}
	desks(func(f impl.Flag, lines []string) {
		for _, s := range []string{plainFlagText(f), "enum\n"} {
			for _, list := range [][]string{lines, slices.Concat(odd, lines)} {
				list = list[:min(len(list), impl.MaxDesk)]
				all := impl.RunDesk(s, list)
				checkLineCount(t, all, len(list))
				for count := range list {
					first := impl.RunDesk(s, list[:count])
					checkLineCount(t, first, count)
					if !strings.HasPrefix(all, first) {
						t.Fatalf("RunDesk(%q, %q) = %q, and of %d lines %q", s, list, all, count, first)
					}
				}
			}
		}
	})
}
