package tests

import (
	"strings"
	"testing"

	"loop.example/namedflags/impl"
)

// checkNoArm checks that a text is none of an arm of a class.
func checkNoArm(t *testing.T, f impl.Flag, s string) {
	t.Helper()
	if a, ok := impl.ParseArm(f, s); ok || a != (impl.Arm{}) {
		t.Errorf("ParseArm(%v, %q) = %v, %v", f, s, a, ok)
	}
}

func TestArmTextAndParseArm(t *testing.T) {
	for _, bound := range allBounds {
		for _, k := range []struct {
			a impl.Arm
			s string
		}{
			{arm(0, 0), "*"}, {arm(2, 0), "out"}, {arm(0, 2), "!out"}, {arm(4, 0), "in"}, {arm(0, 256), "!lock"},
			// The names are in the order of their bits, and the first one of each bit.
			{arm(4, 2), "!out in"}, {arm(2, 4), "out !in"}, {arm(6, 0), "out in"}, {arm(0, 6), "!out !in"},
			{arm(262, 0), "out in lock"}, {arm(0, 262), "!out !in !lock"}, {arm(258, 4), "out !in lock"}, {arm(4, 258), "!out in !lock"},
		} {
			if s := impl.ArmText(doors(bound), k.a); s != k.s {
				t.Errorf("ArmText(%v, %v) = %q, want %q", doors(bound), k.a, s, k.s)
			}
			if a, ok := impl.ParseArm(doors(bound), k.s); !ok || a != k.a {
				t.Errorf("ParseArm(%v, %q) = %v, %v", doors(bound), k.s, a, ok)
			}
		}
		// Bits that no single name has.
		for _, a := range []impl.Arm{arm(8, 0), arm(0, 8), arm(72, 0), arm(8, 64), arm(74, 0), arm(0, 74), arm(4, 8), arm(8, 4), arm(334, 0), arm(2, 332)} {
			if s := impl.ArmText(doors(bound), a); s != "" {
				t.Errorf("ArmText(%v, %v) = %q", doors(bound), a, s)
			}
		}
		all := "a b c d e f g h i j k l"
		never := "!a !b !c !d !e !f !g !h !i !j !k !l"
		if s := impl.ArmText(fullFlag(bound), arm(4095, 0)) + " " + impl.ArmText(fullFlag(bound), arm(0, 4095)); s != all+" "+never {
			t.Errorf("ArmText of all bits = %q", s)
		}
	}
}

func TestArmTextWithoutSingleNames(t *testing.T) {
	for _, bound := range allBounds {
		for _, f := range []impl.Flag{{Bound: bound}, flagOf(bound, 0), flagOf(bound, 3, 6), flagOf(bound, 4095)} {
			if s := impl.ArmText(f, impl.Arm{}); s != "*" {
				t.Errorf("ArmText(%v) of the arm for all = %q", f, s)
			}
			if a, ok := impl.ParseArm(f, "*"); !ok || a != (impl.Arm{}) {
				t.Errorf("ParseArm(%v) of the arm for all = %v, %v", f, a, ok)
			}
			for _, s := range append(oddNames, "a", "!a", "b", "a b") {
				checkNoArm(t, f, s)
			}
			if s := impl.ArmText(f, arm(1, 0)) + impl.ArmText(f, arm(0, 2)) + impl.ArmText(f, arm(3, 0)); s != "" {
				t.Errorf("ArmText(%v) of bits without a single name = %q", f, s)
			}
		}
	}
}

func TestTextsThatAreNoArms(t *testing.T) {
	for _, bound := range allBounds {
		for _, s := range []string{
			// Nothing, and signs alone.
			"", "!", "!!", "! !", "**", "* *", "!*", "*!", "*!in",
			// Spaces at the beginning, at the end and twice in a row.
			" ", "  ", " *", "* ", " in", "in ", "out  in", " out in", "out in ", " !in", "!in ", "out   in", "! in", "!out  !in",
			// A ! alone, two in a row, and at the wrong place.
			"! out", "out !", "out ! in", "!!out", "out !!in", "out!", "out! in", "out!in", "!out!in", "!out!",
			// Names out of order, and names twice.
			"in out", "in !out", "!in out", "lock in", "out lock in", "in in", "!in !in", "in !in", "!in in", "out in in", "out out in", "out in out",
			// Names of composed Values, of nothing, and other names of a bit.
			"both", "!both", "wide", "out wide", "pair", "none", "!none", "none in", "in none", "enter", "!enter", "out enter", "in enter",
			// The arm for all with others.
			"* in", "in *", "in *out", "*in",
			// Others.
			"x", "!x", "out x", "IN", "In", "inn", "i", "4", "!4", "0", "out|in", "out,in", "out&in", "-in", "out\tin", "out\nin", "in\n", "\tin", "in\x00", "out\u00a0in", "~in", "¬in", "out in lock x",
		} {
			checkNoArm(t, doors(bound), s)
		}
		for _, s := range oddNames {
			checkNoArm(t, doors(bound), s)
			checkNoArm(t, doors(bound), "!"+s)
			checkNoArm(t, doors(bound), "out "+s)
			checkNoArm(t, doors(bound), s+" in")
		}
		checkNoArm(t, doors(bound), strings.Repeat("in ", 2000)+"in")
		checkNoArm(t, doors(bound), strings.Repeat(" ", 5000))
		checkNoArm(t, doors(bound), strings.Repeat("!", 5000)+"in")
	}
}

// TestAllShortTextsOfArms checks all texts of at most six signs: just those that plainArmText writes are read.
func TestAllShortTextsOfArms(t *testing.T) {
	signs := []string{"a", "b", "c", "!", " ", "*"}
	flags := []impl.Flag{three(impl.BdStrict), flagOf(impl.BdKeep, 2, 1, 1), flagOf(impl.BdFit, 3, 1, 2), flagOf(impl.BdEject, 0, 8, 9)}
	var texts []map[string]impl.Arm
	for _, f := range flags {
		texts = append(texts, plainArmTexts(f))
	}
	read := 0
	sequences(len(signs), 6, func(list []int) {
		s := ""
		for _, k := range list {
			s += signs[k]
		}
		for i, f := range flags {
			want, fits := texts[i][s]
			if a, ok := impl.ParseArm(f, s); ok != fits || a != want {
				t.Fatalf("ParseArm(%v, %q) = %v, %v, want %v", f, s, a, ok, want)
			}
			if fits {
				read++
			}
		}
	})
	if read < 40 {
		t.Errorf("only %d texts are read", read)
	}
}

func TestArmTextAsTheDocumentSays(t *testing.T) {
	written, others := 0, 0
	arms(func(f impl.Flag, a impl.Arm) {
		want := plainArmText(f, a)
		if s := impl.ArmText(f, a); s != want {
			t.Fatalf("ArmText(%v, %v) = %q, want %q", f, a, s, want)
		}
		if want != "" {
			written++
		} else {
			others++
		}
	})
	if written < 1000 || others < 1000 {
		t.Errorf("only %d arms have a text, %d have none", written, others)
	}
}

func TestParseArmAsTheDocumentSays(t *testing.T) {
	g := generator(24)
	read := 0
	for _, f := range flagsForArms() {
		if len(bitsOf(plainMask(f.Defs))) > impl.MaxBits {
			continue
		}
		texts := plainArmTexts(f)
		check := func(s string) {
			want, fits := texts[s]
			if a, ok := impl.ParseArm(f, s); ok != fits || a != want {
				t.Fatalf("ParseArm(%v, %q) = %v, %v, want %v", f, s, a, ok, want)
			}
			if fits {
				read++
			}
		}
		for s := range texts {
			check(s)
			check(s + " ")
		}
		for range 300 {
			check(someArmText(&g, f))
		}
	}
	if read < 2000 {
		t.Errorf("only %d texts are read", read)
	}
}

// someArmText returns a text of words that most often are names of a class, most often in order, as the generator has it.
func someArmText(g *generator, f impl.Flag) string {
	var words []string
	for _, d := range append(plainSingles(f.Defs), f.Defs...) {
		switch g.below(5) {
		case 0:
			words = append(words, d.Name)
		case 1:
			words = append(words, "!"+d.Name)
		}
	}
	if g.below(8) == 0 {
		words = append(words, []string{"", "*", "!", "zz", " ", "!*"}[g.below(6)])
	}
	return strings.Join(words, " ")
}
