package impl

import "slices"

// MaxName is the largest number of letters of a name.
const MaxName = 6

// MaxItems is the largest number of items of a class.
const MaxItems = 12

// MaxValue is the greatest value of an enumeration.
const MaxValue = 1000

// MaxGaps is the largest number of gaps that are told.
const MaxGaps = 30

// Item is an item of a class: its name, and its value, or that it gets the next one.
type Item struct {
	Name  string
	Auto  bool
	Value int
}

// Def is a name with its value.
type Def struct {
	Name  string
	Value int
}

// Enum is an enumeration.
type Enum struct {
	Defs []Def
}

// told is how an item tells its value.
type told int

const (
	toldOwn   told = iota // it has a value of its own
	toldNext              // it gets the next value
	toldTwice             // it gets the next value and has one of its own: no item can
)

// ValidName reports whether a text is a name.
func ValidName(s string) bool {
	if len(s) < 1 || len(s) > MaxName {
		return false
	}
	for i := 0; i < len(s); i++ {
		if s[i] < 'a' || s[i] > 'z' {
			return false
		}
	}
	return true
}

// ValidEnum reports whether an enumeration is valid.
func ValidEnum(e Enum) bool {
	if len(e.Defs) > MaxItems {
		return false
	}
	met := make(map[string]bool, len(e.Defs))
	for _, d := range e.Defs {
		if !ValidName(d.Name) || met[d.Name] || d.Value < -MaxValue || d.Value > MaxValue {
			return false
		}
		met[d.Name] = true
	}
	return true
}

// BuildEnum returns the enumeration of items.
func BuildEnum(items []Item) (Enum, bool) {
	if len(items) > MaxItems {
		return Enum{}, false
	}
	var e Enum
	for _, item := range items {
		value := item.Value
		switch howTold(item) {
		case toldTwice:
			return Enum{}, false
		case toldNext:
			value = nextValue(e.Defs)
		}
		e.Defs = append(e.Defs, Def{Name: item.Name, Value: value})
	}
	if !ValidEnum(e) {
		return Enum{}, false
	}
	return e, true
}

// howTold returns how an item tells its value.
func howTold(item Item) told {
	switch {
	case !item.Auto:
		return toldOwn
	case item.Value == 0:
		return toldNext
	default:
		return toldTwice
	}
}

// nextValue returns the automatic value behind definitions.
// After the greatest int it wraps round, but then the definitions are not valid anyway.
func nextValue(defs []Def) int {
	if len(defs) == 0 {
		return 1
	}
	_, greatest := valueRange(defs)
	return greatest + 1
}

// memberIndexes returns, for each value, the index of the definition that is its member.
func memberIndexes(defs []Def) map[int]int {
	members := make(map[int]int, len(defs))
	for i, d := range defs {
		if _, met := members[d.Value]; !met {
			members[d.Value] = i
		}
	}
	return members
}

// ValueOf returns the value of a name.
func ValueOf(e Enum, s string) (int, bool) {
	if !ValidEnum(e) {
		return 0, false
	}
	for _, d := range e.Defs {
		if d.Name == s {
			return d.Value, true
		}
	}
	return 0, false
}

// NameOf returns the member with a value.
func NameOf(e Enum, n int) (string, bool) {
	if !ValidEnum(e) {
		return "", false
	}
	i, ok := memberIndexes(e.Defs)[n]
	if !ok {
		return "", false
	}
	return e.Defs[i].Name, true
}

// MembersOf returns the members of an enumeration.
func MembersOf(e Enum) []string {
	if !ValidEnum(e) {
		return nil
	}
	members := memberIndexes(e.Defs)
	var names []string
	for i, d := range e.Defs {
		if members[d.Value] == i {
			names = append(names, d.Name)
		}
	}
	return names
}

// OtherNames returns the other names of a member.
func OtherNames(e Enum, s string) []string {
	value, ok := ValueOf(e, s)
	if !ok {
		return nil
	}
	member := memberIndexes(e.Defs)[value]
	var names []string
	for i, d := range e.Defs {
		if d.Value == value && i != member {
			names = append(names, d.Name)
		}
	}
	return names
}

// IsUnique reports whether all names are members.
func IsUnique(e Enum) bool {
	return ValidEnum(e) && len(memberIndexes(e.Defs)) == len(e.Defs)
}

// GapsOf returns the values that an enumeration leaves out.
func GapsOf(e Enum) []int {
	if !ValidEnum(e) || len(e.Defs) == 0 {
		return nil
	}
	members := memberIndexes(e.Defs)
	least, greatest := valueRange(e.Defs)
	var gaps []int
	for n := least; n <= greatest; n++ {
		if _, named := members[n]; named {
			continue
		}
		if len(gaps) == MaxGaps {
			return nil
		}
		gaps = append(gaps, n)
	}
	return gaps
}

// valueRange returns the least and the greatest value of definitions, of which there is at least one.
func valueRange(defs []Def) (int, int) {
	least, greatest := defs[0].Value, defs[0].Value
	for _, d := range defs {
		least, greatest = min(least, d.Value), max(greatest, d.Value)
	}
	return least, greatest
}

// RankOf returns the index of a member.
func RankOf(e Enum, s string) int {
	value, ok := ValueOf(e, s)
	if !ok {
		return -1
	}
	member := e.Defs[memberIndexes(e.Defs)[value]].Name
	return slices.Index(MembersOf(e), member)
}

// NextMember returns the member that comes next.
func NextMember(e Enum, s string) (string, bool) {
	rank := RankOf(e, s)
	if rank < 0 {
		return "", false
	}
	members := MembersOf(e)
	return members[(rank+1)%len(members)], true
}
