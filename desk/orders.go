package desk

import (
	"cmp"
	"iter"
	"slices"

	"sobreiro/api"
)

// canGo says whether corks of a lot can go to a contract.
func canGo(l api.CorkLot, c api.Contract) bool { return c.Class >= l.Class }

// greatest returns the greatest worth of a filling. The contracts with the greatest prices come first; each takes the corks with the highest class that it can have, for which the fewest others have a use.
func greatest(o api.Orders) (worth int) {
	lots, contracts := slices.Clone(o.Lots), slices.Clone(o.Contracts)
	slices.SortFunc(lots, func(a, b api.CorkLot) int { return cmp.Compare(b.Class, a.Class) })
	slices.SortFunc(contracts, func(a, b api.Contract) int { return cmp.Compare(b.Price, a.Price) })
	for _, c := range contracts {
		for i := range lots {
			if canGo(lots[i], c) {
				n := min(lots[i].Count, c.Count)
				lots[i].Count -= n
				c.Count -= n
				worth += n * c.Price
			}
		}
	}
	return worth
}

// filled returns the least filling of the greatest worth.
func filled(o api.Orders) (filling [][]int) {
	for i, l := range o.Lots {
		row := leastRow(l, api.Orders{Lots: o.Lots[i+1:], Contracts: o.Contracts})
		filling = append(filling, row)
		o.Contracts = without(o.Contracts, row)
	}
	return filling
}

// leastRow returns the least row of a lot with which the later lots can still make up the greatest worth.
func leastRow(l api.CorkLot, later api.Orders) []int {
	wanted := greatest(api.Orders{Lots: append([]api.CorkLot{l}, later.Lots...), Contracts: later.Contracts})
	for row := range rowsOf(l, later.Contracts) {
		rest := api.Orders{Lots: later.Lots, Contracts: without(later.Contracts, row)}
		if worthOf(later.Contracts, row)+greatest(rest) == wanted {
			return slices.Clone(row)
		}
	}
	return nil
}

// rowsOf yields all rows of a filling that a lot can have, the least one first. It goes on with the row that it has yielded.
func rowsOf(l api.CorkLot, contracts []api.Contract) iter.Seq[[]int] {
	return func(yield func([]int) bool) {
		row := make([]int, len(contracts))
		var fill func(contract, left int) bool
		fill = func(contract, left int) bool {
			if contract == len(row) {
				return yield(row)
			}
			most := 0
			if canGo(l, contracts[contract]) {
				most = min(left, contracts[contract].Count)
			}
			for n := range most + 1 {
				row[contract] = n
				if !fill(contract+1, left-n) {
					return false
				}
			}
			return true
		}
		fill(0, l.Count)
	}
}

// without returns contracts that already have the corks of a row.
func without(contracts []api.Contract, row []int) []api.Contract {
	contracts = slices.Clone(contracts)
	for i, n := range row {
		contracts[i].Count -= n
	}
	return contracts
}

func worthOf(contracts []api.Contract, row []int) (worth int) {
	for i, n := range row {
		worth += n * contracts[i].Price
	}
	return worth
}

// rentsOfLots returns the rent of each lot, which a goroutine of its own finds.
func rentsOfLots(o api.Orders) []int {
	type rent struct{ lot, sum int }
	found := make(chan rent)
	worth := greatest(o)
	for i := range o.Lots {
		go func() { found <- rent{i, greatest(withOneMore(o, i)) - worth} }()
	}
	rents := make([]int, len(o.Lots))
	for range rents {
		r := <-found // in any order
		rents[r.lot] = r.sum
	}
	return rents
}

// withOneMore returns orders of which a lot has one cork more.
func withOneMore(o api.Orders, lot int) api.Orders {
	o.Lots = slices.Clone(o.Lots)
	o.Lots[lot].Count++
	return o
}

// rentsOfContracts returns the least rents of contracts that prove it together with those of the lots.
func rentsOfContracts(o api.Orders, lots []int) (rents []int) {
	for _, c := range o.Contracts {
		rent := 0
		for i, l := range o.Lots {
			if canGo(l, c) {
				rent = max(rent, c.Price-lots[i])
			}
		}
		rents = append(rents, rent)
	}
	return rents
}

// arePaid says whether the rents of each lot and each contract to which its corks can go are at least the contract's price.
func arePaid(o api.Orders, lots, contracts []int) bool {
	for i, l := range o.Lots {
		for j, c := range o.Contracts {
			if canGo(l, c) && lots[i]+contracts[j] < c.Price {
				return false
			}
		}
	}
	return true
}

// totalOf returns the sum of all counts times their rents.
func totalOf(o api.Orders, lots, contracts []int) (total int) {
	sum := tally()
	for i, l := range o.Lots {
		total = sum(l.Count * lots[i])
	}
	for i, c := range o.Contracts {
		total = sum(c.Count * contracts[i])
	}
	return total
}
