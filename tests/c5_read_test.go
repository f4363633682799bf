package tests

import (
	"slices"
	"strings"
	"testing"

	"loop.example/namedflags/impl"
)

// checkRead checks what is read of a text.
func checkRead(t *testing.T, f impl.Flag, s string, want int, fits bool) {
	t.Helper()
	if n, ok := impl.ReadValue(f, s); n != want || ok != fits {
		t.Errorf("ReadValue(%v, %q) = %d, %v", f, s, n, ok)
	}
}

func TestReadValue(t *testing.T) {
	for s, want := range map[string]int{
		// Names, of nothing and twice among them.
		"in": 4, "enter": 4, "both": 6, "wide": 74, "none": 0, "none|none": 0, "none|in": 4, "in|none": 4, "in|none|out": 6,
		"in|in": 4, "in|enter|in": 4, "in|out": 6, "out|in": 6, "pair|both": 6, "in|both|wide|lock": 334,
		// Numbers, alone and beside names.
		"0": 0, "0|0": 0, "2": 2, "4": 4, "8": 8, "72": 72, "334": 334, "8|64": 72, "2|2": 2, "6|12": 14, "0|8|0": 8,
		"in|8": 12, "8|in": 12, "in|4": 4, "out|72": 74, "none|0": 0, "0|none|256": 256, "in|2|out|4|lock": 262,
	} {
		for _, bound := range allBounds {
			checkRead(t, doors(bound), s, want, true)
		}
	}
	for _, bound := range allBounds {
		checkRead(t, fullFlag(bound), "4095", 4095, true)
		checkRead(t, fullFlag(bound), "4094|a", 4095, true)
		checkRead(t, fullFlag(bound), "1000", 1000, true)
		checkRead(t, fullFlag(bound), strings.Join(namesOf(fullEnum()), "|"), 4095, true)
		checkRead(t, impl.Flag{Bound: bound}, "0", 0, true)
		checkRead(t, impl.Flag{Bound: bound}, "0|0|0", 0, true)
	}
}

func TestReadTextsThatAreNone(t *testing.T) {
	words := append(slices.Clone(oddNames),
		"y", "inn", "In", "mark", "in out", "in,out", "in/out", "in\n", "in\x00", " in", "in ", "in | out", "in| out", "in |out",
		"00", "01", "04", "004", "0004", "00000000000000000004", "0x4", "4.", "4.0", "4e0", "1_0", "0b1", "0o4", "4a", "a4", "in4", "4in",
		" 4", "4 ", "\t4", "4\n", "+4", "-4", "+0", "-0", "--4", "-", "+", "- 4", "٤", "４", "²", ".4",
		"4096", "4097", "4100", "5000", "8191", "8192", "10000", "-4096", "9223372036854775807", "9223372036854775808", "-9223372036854775808",
		"18446744073709551616", "18446744073709551620", "4294967300", "99999999999999999999999999", strings.Repeat("4", 5000), "-1", "-2", "NaN", "Inf")
	for _, bound := range allBounds {
		for _, f := range []impl.Flag{doors(bound), fullFlag(bound), {Bound: bound}} {
			for _, word := range words {
				for _, s := range []string{word, word + "|0", "0|" + word, "0|" + word + "|0"} {
					checkRead(t, f, s, 0, false)
				}
			}
		}
		for _, word := range words {
			for _, s := range []string{word + "|in", "in|" + word, "in|" + word + "|out", "4|" + word} {
				checkRead(t, doors(bound), s, 0, false)
			}
		}
	}
}

func TestReadBars(t *testing.T) {
	for _, bound := range allBounds {
		for _, s := range []string{"", "|", "||", "|||", "in|", "|in", "|in|", "in||out", "in|out|", "|in|out", "in|out||", "||in", "0|", "|0", "0||0", "4|", "|4", "none||none"} {
			checkRead(t, doors(bound), s, 0, false)
			checkRead(t, impl.Flag{Bound: bound}, s, 0, false)
		}
	}
}

func TestReadTextsWithoutAValue(t *testing.T) {
	// The bits of 1, 16, 32, 128 and 512 up have no name: they are not left out, and make no number.
	for s, kept := range map[string]int{
		"1": 1, "16": 16, "3": 3, "in|1": 5, "1|in": 5, "none|1": 1, "0|512": 512, "both|wide|32": 110, "4095": 4095, "in|4095": 4095, "in|128|2048": 2180, "511": 511,
	} {
		for _, bound := range []int{impl.BdStrict, impl.BdFit, impl.BdEject} {
			checkRead(t, doors(bound), s, 0, false)
		}
		checkRead(t, doors(impl.BdKeep), s, kept, true)
	}
	for _, s := range []string{"1", "2|1", "4095", "0|1"} {
		for _, bound := range []int{impl.BdStrict, impl.BdFit, impl.BdEject} {
			checkRead(t, impl.Flag{Bound: bound}, s, 0, false)
			checkRead(t, flagOf(bound, 0, 8), s, 0, false)
		}
	}
	checkRead(t, impl.Flag{Bound: impl.BdKeep}, "4095", 4095, true)
	checkRead(t, impl.Flag{Bound: impl.BdKeep}, "1|2048", 2049, true)
}

func TestReadLongTexts(t *testing.T) {
	long := strings.Repeat("in|", 20000)
	for _, bound := range allBounds {
		checkRead(t, doors(bound), long+"8", 12, true)
		checkRead(t, doors(bound), long, 0, false)
		checkRead(t, doors(bound), long+"y", 0, false)
		checkRead(t, doors(bound), strings.Repeat("0|", 20000)+"0", 0, true)
		checkRead(t, doors(bound), strings.Repeat("0", 20000), 0, false)
	}
}

func TestReadShortTextsOfAllKinds(t *testing.T) {
	signs := []string{"|", "a", "b", "0", "1", "4", " ", "-"}
	flags := []impl.Flag{flagOf(impl.BdStrict, 4, 0), flagOf(impl.BdFit, 5, 1), flagOf(impl.BdEject, 14, 2), flagOf(impl.BdKeep, 0, 2)}
	read := 0
	sequences(len(signs), 5, func(list []int) {
		s := ""
		for _, k := range list {
			s += signs[k]
		}
		for _, f := range flags {
			want, fits := plainRead(f, s)
			checkRead(t, f, s, want, fits)
			if fits {
				read++
			}
		}
	})
	if read < 500 {
		t.Errorf("only %d texts are read", read)
	}
}
