package desk

import (
	"slices"

	"sobreiro/api"
	"sobreiro/terms"
	"sobreiro/tree"
	"sobreiro/yard"
)

// CheckWorks returns the first error of works.
func CheckWorks(w api.Works) api.Errno {
	return checkWorks(w, tree.CheckForest(w.Forest), deedErrors(w.Entries))
}

// checkWorks returns the first error of works, of which the error of the forest and, entry by entry, those of the deeds are known.
func checkWorks(w api.Works, forest api.Errno, deeds []api.Errno) api.Errno {
	if !hasNumbers(w) {
		return api.ErrValue
	}
	if e := checkPartners(w.Partners); e != api.OK {
		return e
	}
	if forest != api.OK {
		return forest
	}
	return checkEntries(w.Entries, deeds)
}

func hasNumbers(w api.Works) bool {
	return terms.Within(w.Year, 0, api.MaxYear) && terms.Within(w.Price, 0, api.MaxKilo) &&
		terms.Within(w.Commons, 0, whole) && terms.Within(w.Wage, 0, api.MaxWage) &&
		terms.Within(w.Before, 0, api.MaxResting) && terms.Within(w.After, 0, api.MaxResting) &&
		terms.Within(w.Weight, 1, api.MaxHeavy) && terms.Within(w.Wet, 0, api.MaxSoak)
}

func checkPartners(partners []api.Partner) api.Errno {
	if len(partners) > api.MaxPartners {
		return api.ErrCount
	}
	for i, p := range partners {
		switch {
		case !terms.IsCode(p.Code):
			return api.ErrCode
		case slices.ContainsFunc(partners[:i], func(o api.Partner) bool { return o.Code == p.Code }):
			return api.ErrRepeat
		case !isPart(p.Part):
			return api.ErrValue
		}
	}
	return api.OK
}

func isPart(n int) bool { return terms.Within(n, 0, api.MaxPart) }

// deedErrors returns the error that each entry's deed has in itself.
func deedErrors(entries []api.Entry) (l []api.Errno) {
	for _, n := range entries {
		e := api.OK
		if n.Kind == api.DkDeed {
			e = yard.CheckYard(api.Yard{Deeds: []api.Deed{n.Deed}})
		}
		l = append(l, e)
	}
	return l
}

// checkEntries returns the first error of entries, of whose deeds the errors are known.
func checkEntries(entries []api.Entry, deeds []api.Errno) api.Errno {
	if len(entries) > api.MaxEntries {
		return api.ErrCount
	}
	earliest := 0
	for i, n := range entries {
		if e := checkEntry(n, earliest); e != api.OK {
			return e
		}
		if deeds[i] != api.OK {
			return deeds[i]
		}
		earliest = n.Day
	}
	return api.OK
}

// checkEntry returns the first error of an entry that is not made before a day, but for those that its deed has in itself.
func checkEntry(n api.Entry, earliest int) api.Errno {
	_, isKind := kinds()[n.Kind]
	switch {
	case !isKind || !terms.Within(n.Day, 0, api.MaxYardDay):
		return api.ErrValue
	case n.Day < earliest:
		return api.ErrOrder
	case n.Kind == api.DkCut && !terms.IsCode(n.Tree):
		return api.ErrCode
	case !hasJustItsOwn(n):
		return api.ErrValue
	}
	return api.OK
}

// hasJustItsOwn says whether an entry has the N and the Deed that its kind needs, and nothing else.
func hasJustItsOwn(n api.Entry) bool {
	switch n.Kind {
	case api.DkCut:
		return terms.Within(n.N, 1, api.MaxHeight) && n.Deed == api.Deed{}
	case api.DkHire:
		return terms.Within(n.N, 0, api.MaxDays) && n.Tree == "" && n.Deed == api.Deed{}
	default:
		return n.N == 0 && n.Tree == "" && n.Deed.Day == n.Day && n.Deed.Kind != api.YdPile
	}
}

// CheckOrders returns the first error of orders.
func CheckOrders(o api.Orders) api.Errno {
	if len(o.Lots) > api.MaxLots {
		return api.ErrCount
	}
	for _, l := range o.Lots {
		if !isCorks(l.Class, l.Count) {
			return api.ErrValue
		}
	}
	if len(o.Contracts) > api.MaxContracts {
		return api.ErrCount
	}
	for _, c := range o.Contracts {
		if !isCorks(c.Class, c.Count) || !isOffer(c.Price) {
			return api.ErrValue
		}
	}
	return api.OK
}

// isCorks says whether a class and a number of corks are in their ranges.
func isCorks(class, count int) bool {
	return terms.Within(class, 0, api.MaxCorkClass) && terms.Within(count, 0, api.MaxCount)
}

func isOffer(n int) bool { return terms.Within(n, 0, api.MaxOffer) }

// checkRents returns the first error of orders and of rents of their lots and contracts.
func checkRents(o api.Orders, lots, contracts []int) api.Errno {
	if e := CheckOrders(o); e != api.OK {
		return e
	}
	if len(lots) != len(o.Lots) || len(contracts) != len(o.Contracts) {
		return api.ErrCount
	}
	for _, rent := range slices.Concat(lots, contracts) {
		if !isOffer(rent) {
			return api.ErrValue
		}
	}
	return api.OK
}
