package desk

import (
	"cmp"
	"slices"

	"sobreiro/api"
	"sobreiro/tree"
	"sobreiro/yard"
)

// year is a year that is replayed: what is there after the entries that were made.
type year struct {
	api.Standing // of the yard; From has the indexes of entries
	works        api.Works
	forest       api.Forest
	days         int
	deeds        []api.Deed // that were done in the yard
	entries      []int      // the indexes of the entries by which they were
	made         int        // how many entries were made: the index of the next one
}

// replayed makes the first entries of works, up to the first one that has a fault.
func replayed(w api.Works, n int) (y *year, fault api.DeskFault) {
	y = &year{works: w, forest: copyOf(w.Forest)}
	for _, entry := range w.Entries[:n] {
		fault = kinds()[entry.Kind](y, entry)
		if fault.Kind != api.DkNone {
			break
		}
		y.made++
	}
	return y, fault
}

// copyOf returns a forest that has nothing in common with another one.
func copyOf(f api.Forest) api.Forest {
	f.Trees = slices.Clone(f.Trees)
	for i := range f.Trees {
		t := &f.Trees[i]
		t.Strips, t.Wounds = slices.Clone(t.Strips), slices.Clone(t.Wounds)
	}
	return f
}

// kinds returns for each kind of entries what makes one, or returns its fault.
func kinds() map[api.EntryKind]func(*year, api.Entry) api.DeskFault {
	return map[api.EntryKind]func(*year, api.Entry) api.DeskFault{
		api.DkCut:  (*year).cut,
		api.DkHire: (*year).hire,
		api.DkDeed: (*year).deed,
	}
}

func (y *year) cut(n api.Entry) api.DeskFault {
	i := findTree(y.forest, n.Tree)
	if i < 0 {
		return api.DeskFault{Kind: api.DkTree}
	}
	if len(y.forest.Trees[i].Strips) >= api.MaxStrips {
		return api.DeskFault{Kind: api.DkRoom}
	}
	if v, rule, _ := tree.May(y.forest, i, y.works.Year, n.N); v != api.VdAlways {
		return api.DeskFault{Kind: api.DkLaw, Detail: int(rule)}
	}
	fault := y.work(y.pileOf(i, n))
	if fault.Kind == api.DkNone {
		y.strip(i, n.N)
	}
	return fault
}

// findTree returns the index of the tree with a code, or -1.
func findTree(f api.Forest, code string) int {
	return slices.IndexFunc(f.Trees, func(t api.Tree) bool { return t.Code == code })
}

// pileOf returns the deed that piles the bark of a cut tree.
func (y *year) pileOf(i int, n api.Entry) api.Deed {
	area, _ := tree.Area(y.forest, i, y.works.Year, n.N)
	dry := each(area, func(square int) int { return square * y.works.Weight })
	water := each(dry, func(mass int) int { return mass * y.works.Wet / whole })
	return api.Deed{Kind: api.YdPile, Day: n.Day, Stack: n.Tree, A: dry, B: water}
}

// each returns the bounds of what is made of a number, where more never makes less.
func each(b api.Bounds, made func(n int) int) api.Bounds {
	return api.Bounds{Min: made(b.Min), Max: made(b.Max)}
}

// strip enters a strip in the forest book, in its place by the year.
func (y *year) strip(i, height int) {
	t := &y.forest.Trees[i]
	at, _ := slices.BinarySearchFunc(t.Strips, y.works.Year, func(s api.Strip, year int) int { return cmp.Compare(s.Year, year) })
	t.Strips = slices.Insert(t.Strips, at, api.Strip{Year: y.works.Year, Height: height})
}

func (y *year) hire(n api.Entry) api.DeskFault {
	y.days += n.N
	return api.DeskFault{}
}

func (y *year) deed(n api.Entry) api.DeskFault { return y.work(n.Deed) }

// work does a deed in the yard, or returns its fault.
func (y *year) work(d api.Deed) api.DeskFault {
	deeds, entries := append(y.deeds, d), append(y.entries, y.made)
	standing, _, fault, _ := yard.Follow(api.Yard{Before: y.works.Before, After: y.works.After, Deeds: deeds}, len(deeds))
	if fault != api.YdNone {
		return api.DeskFault{Kind: api.DkYard, Detail: int(fault)}
	}
	for _, s := range standing.Stacks {
		for i, deed := range s.From {
			s.From[i] = entries[deed]
		}
	}
	y.Standing, y.deeds, y.entries = standing, deeds, entries
	return api.DeskFault{}
}

// earned returns what the dry bark that was sold brought.
func (y *year) earned() api.Bounds {
	const kilogram = 1000 // grams
	return each(y.Account.SoldDry, func(mass int) int { return mass * y.works.Price / kilogram })
}

// desk returns what is there.
func (y *year) desk() api.Desk {
	return api.Desk{Forest: y.forest, Yard: y.Standing, Days: y.days, Earned: y.earned()}
}

// findStack returns the stack with a code.
func (y *year) findStack(code string) (s api.Stack, found bool) {
	i := slices.IndexFunc(y.Stacks, func(s api.Stack) bool { return s.Code == code })
	if i < 0 {
		return api.Stack{}, false
	}
	return y.Stacks[i], true
}
