package tests

import (
	"strings"
	"testing"

	"loop.example/namedflags/impl"
)

// linesThatAreNone are lines that are none of a name, whatever is ahead of them.
var linesThatAreNone = []string{
	// A name alone, with a space, or with = alone.
	"a ", " a", "a  ", "  a", " ", "  ", "a=", "a =", "a = ", "a  =", "a =  ", "=", " =", " = ", "= ",
	// A space too few or too many.
	"a  = 1", "a =  1", "a = 1 ", " a = 1", "a=1", "a= 1", "a =1", "a  =  1", "a  1", "a 1",
	// Words that are missing, and words too many.
	"= 1", " = 1", "1", "0", "-1", "a b", "a b = 1", "a = b", "a = a", "a = 1 2", "a = 1 = 1", "a = = 1", "a == 1", "a = 1 b", "a = 1 #", "a = b = 1", "a; b", "a, b", "a := 1", "a: 1",
	// Numbers with zeros or signs ahead.
	"a = 01", "a = 00", "a = 007", "a = 0000000000000000000000001", "a = -01", "a = -0", "a = -00", "a = +1", "a = +0", "a = +01", "a = --1", "a = - 1", "a = -", "a = +", "a = 1-", "a = 1+1",
	// Other numbers, and some that are too long for any int.
	"a = 0x1", "a = 0b1", "a = 0o1", "a = 1_0", "a = 1.0", "a = 1.", "a = .1", "a = 1e1", "a = 1a", "a = a1", "a = ١", "a = １", "a = ²", "a = NaN",
	"a = 9223372036854775807", "a = 9223372036854775808", "a = -9223372036854775808", "a = -9223372036854775809", "a = 18446744073709551616", "a = 18446744073709551617",
	"a = -18446744073709551615", "a = 4294967296", "a = 4294967297", "a = 99999999999999999999999999999999",
	// Carriage returns, tabs and others.
	"a\r", "a = 1\r", "\r", "\ra", "a\t", "a\t=\t1", "a =\t1", "a\t= 1", "a\x00", "a = 1\x00", "a\u00a0= 1", "a = 1\u2028", "a\v", "a\f",
	// Names that are none.
	"A", "A = 1", "a1", "a1 = 1", "abcdefg", "abcdefg = 1", "é", "é = 1", "\xff", "\xff = 1", "a-b", "a|b", "*", "!a", "a.", "\ufeffa",
	// Nothing.
	"",
}

func TestLinesThatAreNone(t *testing.T) {
	long := []string{"a = " + strings.Repeat("1", 5000), "a = -" + strings.Repeat("9", 5000), "a = " + strings.Repeat("0", 5000), strings.Repeat("a", 5000), strings.Repeat(" ", 5000), "a" + strings.Repeat(" = 1", 5000)}
	for _, line := range append(long, linesThatAreNone...) {
		checkLines(t, line+"\n")
		checkLines(t, line+"\nz = 1\n")
		checkLines(t, "z\n"+line+"\n")
		checkLines(t, "z = 0\n"+line+"\ny = 4\nx\n")
	}
}

func TestNamesTwice(t *testing.T) {
	for _, lines := range []string{"a\na\n", "a = 1\na = 1\n", "a = 1\na = 2\n", "a\na = 1\n", "a = 1\na\n", "a\nb\na\n", "a = 1\nb = 2\nc\nb = 4\n", "abcdef\nabcdef\n"} {
		checkLines(t, lines)
	}
	checkRight(t, "a = 1\naa = 1\nb = 1\n", def("a", 1), def("aa", 1), def("b", 1))
}

func TestTextsWithoutANewlineAtTheEnd(t *testing.T) {
	for _, head := range firstLines {
		checkNoClass(t, head)
		for _, lines := range []string{"a", "a = 1", "a = 0", "a\nb", "a = 1\nb", "a = 1\nb = 2", " ", "\r"} {
			checkNoClass(t, head+"\n"+lines)
		}
	}
}

func TestEmptyLines(t *testing.T) {
	for _, lines := range []string{"\n", "\n\n", "a\n\n", "\na\n", "a = 1\n\n", "\na = 1\n", "a\n\nb\n", "a = 1\n\nb = 2\n", "a\nb\n\n\n"} {
		checkLines(t, lines)
	}
	for _, s := range []string{"\nenum\n", "\nenum\na\n", "\nflag strict\n", "\nflag keep\na\n", "enum\r\n", "enum\r\na\r\n", "enum\na\r\n", "flag fit\r\n", "flag fit\r\na\r\n", "flag fit\na = 1\r\n", "enum\ra\r", "flag fit\ra\r"} {
		checkNoClass(t, s)
	}
}

func TestFirstLinesThatAreNone(t *testing.T) {
	for _, head := range []string{
		// The first line is missing.
		"", "a", "a = 1", "b\na",
		// It is wrong.
		" ", "x", "Enum", "ENUM", " enum", "enum ", "enums", "enu", "enum enum", "enum = 1", "enum strict", "enum keep", "enum\t", "enum:", "enum\x00", "\ufeffenum", "énum", "enumflag strict",
		// It has a word that is no bound, no word, or too many.
		"flag", "flag ", "flag loose", "flag Strict", "flag STRICT", "flag strictt", "flag stric", "flag s", "flag 0", "flag 1", "flag 3", "flag -1", "flag 4", "flag enum", "flag flag", "flag BdFit",
		"flag  strict", "flag strict ", " flag strict", "flag strict keep", "flag strict strict", "flag strict = 1", "flag = strict", "flagstrict", "flag-strict", "flag\tstrict", "flag, strict", "flag keep\t", "Flag keep", "flags keep",
		"strict", "fit", "eject", "keep", "strict flag", " strict", "bound strict", "class strict", "flag boundary", "flag conform", "flag ejected", "flag kee", "flag fitt", "flag fi", "flag ejec",
	} {
		for _, lines := range []string{"", "\n", "\n\n", "\na\n", "\na = 1\n", "\na\nb = 4\nc\n"} {
			checkNoClass(t, head+lines)
		}
	}
	checkNoClass(t, "")
	checkNoClass(t, strings.Repeat("\n", 5000))
	checkNoClass(t, strings.Repeat("enum\n", 3))
	checkNoClass(t, strings.Repeat("flag keep\n", 2))
	checkNoClass(t, string(make([]byte, 5000)))
}

// TestEachOfBoth checks that no text is both an enumeration and a class of flags.
func TestEachOfBoth(t *testing.T) {
	for _, lines := range []string{"", "a\n", "a = 1\n", "a = 7\nb\n", "a = 0\n"} {
		checkFlagOf(t, "enum\n"+lines, impl.Flag{}, false)
		checkDesk(t, "enum\n"+lines, []string{"make 1"}, "wrong")
		for _, word := range boundWords {
			checkEnumOf(t, "flag "+word+"\n"+lines, impl.Enum{}, false)
		}
	}
}

// checkAsTheDocumentSays checks what is read of a text and returns whether it is an enumeration or a class of flags.
func checkAsTheDocumentSays(t *testing.T, s string) bool {
	t.Helper()
	e, isEnum := plainParseEnum(s)
	checkEnumOf(t, s, e, isEnum)
	f, isFlag := plainParseFlag(s)
	checkFlagOf(t, s, f, isFlag)
	return isEnum || isFlag
}

// TestAllShortTextsOfClasses checks all texts of at most six pieces behind a first line.
func TestAllShortTextsOfClasses(t *testing.T) {
	pieces := []string{"a", "b", " = ", " ", "0", "1", "-", "\n"}
	read := 0
	sequences(len(pieces), 6, func(list []int) {
		lines := ""
		for _, k := range list {
			lines += pieces[k]
		}
		for _, s := range []string{"enum\n" + lines, "flag fit\n" + lines} {
			if checkAsTheDocumentSays(t, s) {
				read++
			}
		}
	})
	if read < 300 {
		t.Errorf("only %d texts are read", read)
	}
}

func TestClassesAreReadAsTheDocumentSays(t *testing.T) {
	read, others := 0, 0
	check := func(s string) {
		if checkAsTheDocumentSays(t, s) {
			read++
		} else {
			others++
		}
	}
	classTexts(check)
	if read < 5000 || others < 500 {
		t.Errorf("only %d texts are read, %d are not", read, others)
	}
	read, others = 0, 0
	brokenTexts(check)
	if read < 5000 || others < 5000 {
		t.Errorf("only %d texts with one sign broken are read, %d are not", read, others)
	}
}
