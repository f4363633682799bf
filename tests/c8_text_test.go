package tests

import (
	"strings"
	"testing"

	"loop.example/namedflags/impl"
)

func TestConstantOfChapter8(t *testing.T) {
	if impl.MaxDesk != 20 {
		t.Error("MaxDesk has another value")
	}
}

func TestEnumText(t *testing.T) {
	for _, k := range []struct {
		e    impl.Enum
		want string
	}{
		{impl.Enum{}, "enum\n"},
		{impl.Enum{Defs: []impl.Def{}}, "enum\n"},
		{enumOf(0), "enum\na = 0\n"},
		{enumOf(1), "enum\na = 1\n"},
		{enumOf(-1), "enum\na = -1\n"},
		{enumOf(1000, -1000), "enum\na = 1000\nb = -1000\n"},
		{enumOf(10, -10, 10, 100, -100), "enum\na = 10\nb = -10\nc = 10\nd = 100\ne = -100\n"},
		{defs(def("enum", 1), def("flag", 2), def("abcdef", 3)), "enum\nenum = 1\nflag = 2\nabcdef = 3\n"},
		{colours(), "enum\nred = 3\nblue = -2\nrot = 3\noff = 0\nrouge = 3\nbleu = -2\n"},
		{fullEnum(), "enum\na = 1\nb = 2\nc = 3\nd = 4\ne = 5\nf = 6\ng = 7\nh = 8\ni = 9\nj = 10\nk = 11\nl = 12\n"},
	} {
		if s := impl.EnumText(k.e); s != k.want {
			t.Errorf("EnumText(%v) = %q, want %q", k.e, s, k.want)
		}
		checkEnumOf(t, k.want, k.e, true)
		checkFlagOf(t, k.want, impl.Flag{}, false)
	}
}

func TestFlagText(t *testing.T) {
	for bound, word := range boundWords {
		for _, k := range []struct {
			f    impl.Flag
			want string
		}{
			{impl.Flag{}, ""},
			{impl.Flag{Defs: []impl.Def{}}, ""},
			{flagOf(0, 0), "a = 0\n"},
			{flagOf(0, 4095, 2048, 10), "a = 4095\nb = 2048\nc = 10\n"},
			{flagOf(0, 1, 1), "a = 1\nb = 1\n"},
			{doors(0), "in = 4\nboth = 6\nout = 2\nnone = 0\nwide = 74\nenter = 4\npair = 6\nlock = 256\n"},
			{fullFlag(0), "a = 1\nb = 2\nc = 4\nd = 8\ne = 16\nf = 32\ng = 64\nh = 128\ni = 256\nj = 512\nk = 1024\nl = 2048\n"},
			{impl.Flag{Defs: []impl.Def{def("flag", 3), def("strict", 2), def("keep", 1)}}, "flag = 3\nstrict = 2\nkeep = 1\n"},
		} {
			f := impl.Flag{Defs: k.f.Defs, Bound: bound}
			want := "flag " + word + "\n" + k.want
			if s := impl.FlagText(f); s != want {
				t.Errorf("FlagText(%v) = %q, want %q", f, s, want)
			}
			checkFlagOf(t, want, f, true)
			checkEnumOf(t, want, impl.Enum{}, false)
		}
	}
}

func TestTextsOfInvalidClasses(t *testing.T) {
	for _, e := range invalidEnums() {
		if s := impl.EnumText(e); s != "" {
			t.Errorf("EnumText(%v) = %q", e, s)
		}
		checkNoClass(t, plainClassText("enum", e.Defs))
	}
	for _, f := range invalidFlags() {
		if s := impl.FlagText(f); s != "" {
			t.Errorf("FlagText(%v) = %q", f, s)
		}
	}
	for _, list := range invalidLists() {
		for bound := range allBounds {
			checkNoClass(t, plainFlagText(impl.Flag{Defs: list, Bound: bound}))
		}
	}
}

// TestTextsWithOtherValues checks that enumerations and classes of flags with the values of the other ones alone have no text.
func TestTextsWithOtherValues(t *testing.T) {
	for _, n := range []int{-1, -1000} {
		if s, other := impl.FlagText(flagOf(impl.BdKeep, n)), impl.EnumText(enumOf(n)); s != "" || other == "" {
			t.Errorf("FlagText with %d = %q, EnumText = %q", n, s, other)
		}
	}
	for _, n := range []int{1001, 4095} {
		if s, other := impl.EnumText(enumOf(n)), impl.FlagText(flagOf(impl.BdKeep, n)); s != "" || other == "" {
			t.Errorf("EnumText with %d = %q, FlagText = %q", n, s, other)
		}
	}
}

func TestClassesAreWrittenAsTheDocumentSays(t *testing.T) {
	for _, e := range append(validEnums(), mixedEnums()...) {
		if s := impl.EnumText(e); s != plainClassText("enum", e.Defs) {
			t.Fatalf("EnumText(%v) = %q", e, s)
		}
	}
	for _, f := range append(validFlags(), flagsToConvert()...) {
		if s := impl.FlagText(f); s != plainFlagText(f) {
			t.Fatalf("FlagText(%v) = %q", f, s)
		}
	}
}

// checkLines checks that a text of lines behind a first line is none, of an enumeration and with each bound.
func checkLines(t *testing.T, lines string) {
	t.Helper()
	for _, head := range firstLines {
		checkNoClass(t, head+"\n"+lines)
	}
}

// checkRight checks that a text of lines behind a first line is one, of an enumeration and with each bound.
func checkRight(t *testing.T, lines string, list ...impl.Def) {
	t.Helper()
	checkEnumOf(t, "enum\n"+lines, defs(list...), true)
	for bound, word := range boundWords {
		checkFlagOf(t, "flag "+word+"\n"+lines, impl.Flag{Defs: list, Bound: bound}, true)
	}
}

func TestNamesAlone(t *testing.T) {
	checkRight(t, "")
	checkRight(t, "a\n", def("a", 1))
	checkRight(t, "a\nb\n", def("a", 1), def("b", 2))
	checkRight(t, "b\na = 7\n", def("b", 1), def("a", 7))
	checkRight(t, "b = 0\na\n", def("b", 0), def("a", 1))
	checkRight(t, "enum\nflag\nstrict = 7\nkeep\n", def("enum", 1), def("flag", 2), def("strict", 7), def("keep", 8))
	checkRight(t, "abcdef\nz = 511\ny\n", def("abcdef", 1), def("z", 511), def("y", 512))
	for lines, want := range map[string]impl.Enum{
		"a\nb\nc\n":                            enumOf(1, 2, 3),
		"a = 5\nb\nc\n":                        enumOf(5, 6, 7),
		"a = 5\nb = 2\nc\nd\n":                 enumOf(5, 2, 6, 7),
		"a = -5\nb\nc\n":                       enumOf(-5, -4, -3),
		"a = -1\nb\n":                          enumOf(-1, 0),
		"a = -1000\nb = -7\nc\n":               enumOf(-1000, -7, -6),
		"a = 999\nb\n":                         enumOf(999, 1000),
		"a\nb = 1\nc\nd = -3\ne\n":             enumOf(1, 1, 2, -3, 3),
		"a = 1000\nb = -1000\n":                enumOf(1000, -1000),
		"a = 10\nb = 100\n":                    enumOf(10, 100),
		"a\nb\nc\nd\ne\nf\ng\nh\ni\nj\nk\nl\n": fullEnum(),
	} {
		checkEnumOf(t, "enum\n"+lines, want, true)
	}
	for lines, want := range map[string]impl.Flag{
		"a\nb\nc\n":                            flagOf(0, 1, 2, 4),
		"a = 6\nb\nc\n":                        flagOf(0, 6, 8, 16),
		"a = 0\nb = 0\nc\n":                    flagOf(0, 0, 0, 1),
		"a = 8\nb = 2\nc\nd = 3\n":             flagOf(0, 8, 2, 16, 3),
		"a = 74\nb\nc = 1\nd\n":                flagOf(0, 74, 128, 1, 256),
		"a = 2047\nb\n":                        flagOf(0, 2047, 2048),
		"a = 1024\nb\nc = 4095\n":              flagOf(0, 1024, 2048, 4095),
		"a\nb\nc\nd\ne\nf\ng\nh\ni\nj\nk\nl\n": fullFlag(0),
	} {
		for bound, word := range boundWords {
			checkFlagOf(t, "flag "+word+"\n"+lines, impl.Flag{Defs: want.Defs, Bound: bound}, true)
		}
	}
}

func TestNamesAloneWithoutAValue(t *testing.T) {
	for _, lines := range []string{"a = 1000\nb\n", "a = 1000\nb = 2\nc\n", "a = 999\nb\nc\n", "a = 1001\nb\n", "a = -1001\nb\n", "a = 9223372036854775807\nb\n", "a = -9223372036854775808\nb\n"} {
		checkEnumOf(t, "enum\n"+lines, impl.Enum{}, false)
	}
	for _, word := range boundWords {
		for _, lines := range []string{"a = 2048\nb\n", "a = 4095\nb\n", "a = 2049\nb = 1\nc\n", "a = 1024\nb\nc\n", "a = 4096\nb\n", "a = -1\nb\n", "a = 9223372036854775807\nb\n", "a = 4611686018427387904\nb\nc\n"} {
			checkFlagOf(t, "flag "+word+"\n"+lines, impl.Flag{}, false)
		}
	}
}

func TestValuesBeyond(t *testing.T) {
	for _, s := range []string{"1001", "-1001", "2000", "4096", "-9999"} {
		checkEnumOf(t, "enum\na = "+s+"\n", impl.Enum{}, false)
		checkEnumOf(t, "enum\nb\na = "+s+"\nc = 1\n", impl.Enum{}, false)
	}
	for _, word := range boundWords {
		for _, s := range []string{"-1", "4096", "4097", "-4096", "8192", "9999"} {
			checkFlagOf(t, "flag "+word+"\na = "+s+"\n", impl.Flag{}, false)
			checkFlagOf(t, "flag "+word+"\nb\na = "+s+"\nc = 1\n", impl.Flag{}, false)
		}
	}
}

func TestMaxItemsLinesAndOneMore(t *testing.T) {
	alone, valued := "", ""
	for i := range impl.MaxItems {
		alone += letters[i:i+1] + "\n"
		valued += letters[i:i+1] + " = 7\n"
	}
	seven := flagOf(0, 7, 7, 7, 7, 7, 7, 7, 7, 7, 7, 7, 7).Defs
	checkRight(t, valued, seven...)
	checkEnumOf(t, "enum\n"+alone, fullEnum(), true)
	checkFlagOf(t, "flag keep\n"+alone, fullFlag(impl.BdKeep), true)
	for _, line := range []string{"m\n", "m = 7\n", "m = 0\n", "a\n", "\n"} {
		checkLines(t, alone+line)
		checkLines(t, valued+line)
		checkLines(t, line+valued)
	}
	checkLines(t, strings.Repeat(valued, 200))
	checkLines(t, strings.Repeat("a\n", 5000))
}
