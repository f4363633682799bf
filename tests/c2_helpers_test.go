package tests

import (
	"slices"

	"loop.example/namedflags/impl"
)

// adding is a change that puts a name in.
func adding(name string, value int) impl.Change {
	return impl.Change{Kind: impl.ChAdd, Name: name, New: value}
}

// dropping is a change that leaves a name out.
func dropping(name string, value int) impl.Change {
	return impl.Change{Kind: impl.ChDrop, Name: name, Old: value}
}

// turning is a change that gives a name another value.
func turning(name string, from, to int) impl.Change {
	return impl.Change{Kind: impl.ChTurn, Name: name, Old: from, New: to}
}

// def returns a definition.
func def(name string, value int) impl.Def { return impl.Def{Name: name, Value: value} }

// defs returns the enumeration of definitions.
func defs(list ...impl.Def) impl.Enum { return impl.Enum{Defs: list} }

// mixedEnums returns all enumerations of at most three of the names a, b and c, in each order, with a few values.
func mixedEnums() []impl.Enum {
	var list []impl.Enum
	values := []int{-1, 0, 7}
	sequences(3*len(values), 3, func(s []int) {
		var e impl.Enum
		for _, k := range s {
			name := letters[k/len(values) : k/len(values)+1]
			if slices.Contains(namesOf(e), name) {
				return
			}
			e.Defs = append(e.Defs, def(name, values[k%len(values)]))
		}
		list = append(list, e)
	})
	return list
}

// someEnum returns an enumeration with names and values as the generator has it.
func someEnum(g *generator) impl.Enum {
	var e impl.Enum
	spread := 1 + g.below(20)
	for len(e.Defs) < impl.MaxItems && g.below(8) > 0 {
		k := g.below(len(letters))
		if name := letters[k : k+1]; !slices.Contains(namesOf(e), name) {
			e.Defs = append(e.Defs, def(name, g.below(spread)-spread/2))
		}
	}
	return e
}

// pairs calls use with pairs of valid enumerations, small ones and longer ones.
func pairs(use func(a, b impl.Enum)) {
	mixed := mixedEnums()
	for _, a := range mixed {
		for _, b := range mixed {
			use(a, b)
		}
	}
	g := generator(2)
	for range 3000 {
		a, b := someEnum(&g), someEnum(&g)
		use(a, b)
		// One that has most of the names, with some values turned, so that not all pairs are far from each other.
		near := impl.Enum{Defs: slices.Clone(a.Defs)}
		for i := range near.Defs {
			if g.below(4) == 0 {
				near.Defs[i].Value = g.below(9) - 4
			}
		}
		use(a, near)
		use(near, a)
	}
}

// plainValue returns the value of a name, whether the enumeration is valid or not.
func plainValue(e impl.Enum, s string) (int, bool) {
	for _, d := range e.Defs {
		if d.Name == s {
			return d.Value, true
		}
	}
	return 0, false
}

// plainMeaning returns the values of all names.
func plainMeaning(e impl.Enum) map[string]int {
	meaning := map[string]int{}
	for _, d := range e.Defs {
		meaning[d.Name] = d.Value
	}
	return meaning
}

// plainStep returns an enumeration after a change, and whether it fits.
func plainStep(e impl.Enum, c impl.Change) (impl.Enum, bool) {
	value, there := plainValue(e, c.Name)
	var after impl.Enum
	for _, d := range e.Defs {
		if d.Name == c.Name && c.Kind == impl.ChDrop {
			continue
		}
		if d.Name == c.Name && c.Kind == impl.ChTurn {
			d.Value = c.New
		}
		after.Defs = append(after.Defs, d)
	}
	fits := there && value == c.Old
	switch c.Kind {
	case impl.ChAdd:
		fits = !there && c.Old == 0
		after.Defs = append(after.Defs, def(c.Name, c.New))
	case impl.ChDrop:
		fits = fits && c.New == 0
	case impl.ChTurn:
	default:
		fits = false
	}
	if !fits || !impl.ValidEnum(after) {
		return impl.Enum{}, false
	}
	return after, true
}

// someChange returns a change that fits an enumeration most of the time.
func someChange(g *generator, e impl.Enum) impl.Change {
	k := g.below(len(letters))
	name, value := letters[k:k+1], g.below(9)-4
	old, there := plainValue(e, name)
	switch {
	case g.below(40) == 0:
		return impl.Change{Kind: g.below(5) - 1, Name: name, Old: g.below(3) - 1, New: g.below(3) - 1}
	case !there:
		return adding(name, value)
	case g.below(2) == 0:
		return dropping(name, old)
	default:
		return turning(name, old, value)
	}
}

// walks calls use with an enumeration, changes, and what plainStep makes of them one after the other.
func walks(use func(e impl.Enum, list []impl.Change, want impl.Enum, fits bool)) {
	g := generator(3)
	for range 2000 {
		e := someEnum(&g)
		var list []impl.Change
		after, fits := e, true
		use(e, list, after, fits)
		for len(list) < impl.MaxChanges && fits && g.below(30) > 0 {
			c := someChange(&g, after)
			list = append(list, c)
			after, fits = plainStep(after, c)
			use(e, slices.Clone(list), after, fits)
		}
	}
}
