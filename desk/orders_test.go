package desk_test

import (
	"math/rand"
	"slices"
	"testing"

	"sobreiro/api"
	"sobreiro/desk"
)

func lot(class, count int) api.CorkLot { return api.CorkLot{Class: class, Count: count} }

func contract(class, count, price int) api.Contract {
	return api.Contract{Class: class, Count: count, Price: price}
}

// exampleOrders are the orders of the chapter's example.
func exampleOrders() api.Orders {
	return api.Orders{Lots: []api.CorkLot{lot(0, 3), lot(1, 2)}, Contracts: []api.Contract{contract(0, 2, 9), contract(1, 2, 5)}}
}

func copyOrders(o api.Orders) api.Orders {
	return api.Orders{Lots: slices.Clone(o.Lots), Contracts: slices.Clone(o.Contracts)}
}

func sameFilling(a, b [][]int) bool { return slices.EqualFunc(a, b, slices.Equal) }

// P10.3: the chapter's example, and edges.
func TestFill(t *testing.T) {
	for i, x := range []struct {
		lots      []api.CorkLot
		contracts []api.Contract
		filling   [][]int
		worth     int
	}{
		{exampleOrders().Lots, exampleOrders().Contracts, [][]int{{2, 0}, {0, 2}}, 28},
		{nil, nil, nil, 0},
		{[]api.CorkLot{lot(0, 5), lot(1, 5)}, nil, [][]int{{}, {}}, 0},
		{nil, []api.Contract{contract(9, 5, 5)}, nil, 0},
		// Corks go to contracts of their class, and of those above it.
		{[]api.CorkLot{lot(1, 5)}, []api.Contract{contract(0, 5, 9), contract(1, 2, 3), contract(2, 2, 1)}, [][]int{{0, 2, 2}}, 8},
		{[]api.CorkLot{lot(9, 30)}, []api.Contract{contract(8, 30, 1000), contract(9, 30, 1)}, [][]int{{0, 30}}, 30},
		{[]api.CorkLot{lot(0, 1)}, []api.Contract{contract(9, 1, 1)}, [][]int{{1}}, 1},
		// Nothing is taken that is worth nothing.
		{[]api.CorkLot{lot(0, 5)}, []api.Contract{contract(0, 5, 0)}, [][]int{{0}}, 0},
		{[]api.CorkLot{lot(0, 5)}, []api.Contract{contract(0, 3, 0), contract(0, 3, 1)}, [][]int{{0, 3}}, 3},
		{[]api.CorkLot{lot(0, 0)}, []api.Contract{contract(0, 3, 7)}, [][]int{{0}}, 0},
		{[]api.CorkLot{lot(0, 5)}, []api.Contract{contract(0, 0, 7), contract(0, 2, 6)}, [][]int{{0, 2}}, 12},
		// The least one: as little as can be from the first lots, to the first contracts.
		{[]api.CorkLot{lot(0, 5), lot(0, 5)}, []api.Contract{contract(0, 4, 3)}, [][]int{{0}, {4}}, 12},
		{[]api.CorkLot{lot(0, 5), lot(0, 5)}, []api.Contract{contract(0, 7, 3)}, [][]int{{2}, {5}}, 21},
		{[]api.CorkLot{lot(0, 5)}, []api.Contract{contract(0, 4, 3), contract(0, 4, 3)}, [][]int{{1, 4}}, 15},
		{[]api.CorkLot{lot(0, 2), lot(0, 2)}, []api.Contract{contract(0, 2, 3), contract(0, 2, 3)}, [][]int{{0, 2}, {2, 0}}, 12},
		{[]api.CorkLot{lot(1, 2), lot(0, 2)}, []api.Contract{contract(0, 2, 3), contract(1, 2, 3)}, [][]int{{0, 2}, {2, 0}}, 12},
		{[]api.CorkLot{lot(0, 3), lot(1, 3)}, []api.Contract{contract(1, 3, 4), contract(0, 2, 4)}, [][]int{{0, 2}, {3, 0}}, 20},
		{[]api.CorkLot{lot(0, 3), lot(1, 1)}, []api.Contract{contract(1, 3, 4), contract(0, 2, 5)}, [][]int{{1, 2}, {1, 0}}, 18},
		// The best corks go where only they can.
		{[]api.CorkLot{lot(0, 1), lot(3, 1)}, []api.Contract{contract(3, 1, 1000), contract(0, 1, 999)}, [][]int{{0, 1}, {1, 0}}, 1999},
		{[]api.CorkLot{lot(0, 1), lot(1, 1), lot(2, 1), lot(3, 1)}, []api.Contract{contract(3, 1, 4), contract(2, 1, 3), contract(1, 1, 2), contract(0, 1, 1)}, [][]int{{0, 0, 0, 1}, {0, 0, 1, 0}, {0, 1, 0, 0}, {1, 0, 0, 0}}, 10},
		// A contract that pays more takes corks away from one that pays less.
		{[]api.CorkLot{lot(0, 2)}, []api.Contract{contract(0, 2, 4), contract(5, 2, 5)}, [][]int{{0, 2}}, 10},
		{[]api.CorkLot{lot(0, 2), lot(4, 1)}, []api.Contract{contract(0, 2, 4), contract(5, 2, 5)}, [][]int{{1, 1}, {0, 1}}, 14},
	} {
		o := api.Orders{Lots: x.lots, Contracts: x.contracts}
		if filling, worth, e := desk.Fill(o); !sameFilling(filling, x.filling) || worth != x.worth || e != api.OK {
			t.Error(i, filling, worth, e)
		}
	}
}

// fillings returns all fillings, the least one first, each as one list.
func fillings(o api.Orders) (all [][]int) {
	pairs := len(o.Lots) * len(o.Contracts)
	filling := make([]int, pairs)
	lots, contracts := copyOrders(o).Lots, copyOrders(o).Contracts
	var fill func(pair int)
	fill = func(pair int) {
		if pair == pairs {
			all = append(all, slices.Clone(filling))
			return
		}
		l, c := &lots[pair/len(contracts)], &contracts[pair%len(contracts)]
		most := min(l.Count, c.Count)
		if c.Class < l.Class {
			most = 0
		}
		for n := range most + 1 {
			filling[pair] = n
			l.Count -= n
			c.Count -= n
			fill(pair + 1)
			l.Count += n
			c.Count += n
		}
	}
	fill(0)
	return all
}

// worthOf returns what a filling is worth, as the chapter tells it.
func worthOf(o api.Orders, filling []int) (worth int) {
	for pair, n := range filling {
		worth += n * o.Contracts[pair%len(o.Contracts)].Price
	}
	return worth
}

// bestOf returns the least filling of the greatest worth, found among all, and that worth.
func bestOf(o api.Orders) (filling []int, worth int) {
	for _, f := range fillings(o) {
		if w := worthOf(o, f); w > worth || filling == nil {
			filling, worth = f, w
		}
	}
	return filling, worth
}

// upTo returns a number from 0 to most, often most.
func upTo(r *rand.Rand, most int) int {
	if r.Intn(2) == 0 {
		return most
	}
	return r.Intn(most + 1)
}

// someOrders returns orders with so many lots and contracts at most, and few or many corks, prices and classes.
func someOrders(r *rand.Rand, many, count int) (o api.Orders) {
	price, class := []int{2, 4, 10, api.MaxOffer}[r.Intn(4)], []int{0, 1, 3, api.MaxCorkClass}[r.Intn(4)]
	for range upTo(r, many) {
		o.Lots = append(o.Lots, lot(r.Intn(class+1), upTo(r, count)))
	}
	for range upTo(r, many) {
		o.Contracts = append(o.Contracts, contract(r.Intn(class+1), upTo(r, count), r.Intn(price+1)))
	}
	return o
}

// small says of some orders with how many lots and contracts, and corks, all fillings are tried.
var small = []struct{ many, count int }{{2, 6}, {3, 2}, {4, 1}, {1, 30}, {3, 3}, {4, 2}}

// P10.3, P0.3: all fillings tried.
func TestFillOfAll(t *testing.T) {
	r := rand.New(rand.NewSource(8))
	for i := range 10 * often {
		s := small[i%len(small)]
		o := someOrders(r, s.many, s.count)
		want, worst := bestOf(o)
		filling, worth, e := desk.Fill(o)
		if len(filling) != len(o.Lots) || !slices.Equal(slices.Concat(filling...), want) || worth != worst || e != api.OK {
			t.Fatal(o, filling, worth, e, want, worst)
		}
		for _, row := range filling {
			if len(row) != len(o.Contracts) {
				t.Fatal(o, filling)
			}
		}
	}
}

// isFilling says whether it is a filling of orders.
func isFilling(o api.Orders, filling [][]int) bool {
	taken := make([]int, len(o.Contracts))
	for i, row := range filling {
		for j, n := range row {
			taken[j] += n
			if n < 0 || n > 0 && o.Contracts[j].Class < o.Lots[i].Class {
				return false
			}
		}
		if len(row) != len(o.Contracts) || sumOf(row) > o.Lots[i].Count {
			return false
		}
	}
	for j, c := range o.Contracts {
		if taken[j] > c.Count {
			return false
		}
	}
	return len(filling) == len(o.Lots)
}

// P10.3, P10.8, P0.3: fillings of any size are worth just what the rents prove that no filling exceeds.
func TestRentsProve(t *testing.T) {
	r := rand.New(rand.NewSource(9))
	for range 5 * often {
		o := someOrders(r, api.MaxLots, []int{3, api.MaxCount}[r.Intn(2)])
		filling, worth, e := desk.Fill(o)
		if !isFilling(o, filling) || e != api.OK || len(o.Lots)*len(o.Contracts) > 0 && worthOf(o, slices.Concat(filling...)) != worth {
			t.Fatal(o, filling, worth, e)
		}
		lots, contracts, e := desk.Rents(o)
		if len(lots) != len(o.Lots) || len(contracts) != len(o.Contracts) || e != api.OK {
			t.Fatal(o, lots, contracts, e)
		}
		if total, ok, e := desk.Proves(o, lots, contracts); total != worth || !ok || e != api.OK {
			t.Fatal(o, lots, contracts, total, ok, e)
		}
		// A rent less, and it is proved no longer, or was not needed.
		for i := range contracts {
			less := slices.Clone(contracts)
			less[i]--
			total, ok, e := desk.Proves(o, lots, less)
			if contracts[i] == 0 && e != api.ErrValue || contracts[i] > 0 && (ok || e != api.OK || total != worth-o.Contracts[i].Count) {
				t.Fatal(o, lots, less, total, ok, e)
			}
		}
	}
}

// P10.3: the rents are what the chapter says of greatest worths.
func TestRentsOfAll(t *testing.T) {
	r := rand.New(rand.NewSource(10))
	for i := range 2 * often {
		s := small[i%len(small)]
		o := someOrders(r, s.many, s.count)
		lots, contracts, e := desk.Rents(o)
		if e != api.OK {
			t.Fatal(o, e)
		}
		_, worth := bestOf(o)
		for i := range o.Lots {
			more := copyOrders(o)
			more.Lots[i].Count++
			if _, w := bestOf(more); lots[i] != w-worth {
				t.Fatal(o, lots, i, w, worth)
			}
		}
		for j, c := range o.Contracts {
			want := 0
			for i, l := range o.Lots {
				if c.Class >= l.Class {
					want = max(want, c.Price-lots[i])
				}
			}
			if contracts[j] != want {
				t.Fatal(o, contracts, j, want)
			}
		}
	}
}

// P10.3: the chapter's example, and edges.
func TestRents(t *testing.T) {
	for i, x := range []struct {
		o               api.Orders
		lots, contracts []int
	}{
		{exampleOrders(), []int{0, 0}, []int{9, 5}},
		{api.Orders{}, nil, nil},
		{api.Orders{Lots: []api.CorkLot{lot(0, 5)}}, []int{0}, nil},
		{api.Orders{Contracts: []api.Contract{contract(0, 5, 5)}}, nil, []int{0}},
		// One cork more is sold, or is not.
		{api.Orders{Lots: []api.CorkLot{lot(0, 4)}, Contracts: []api.Contract{contract(0, 5, 7)}}, []int{7}, []int{0}},
		{api.Orders{Lots: []api.CorkLot{lot(0, 5)}, Contracts: []api.Contract{contract(0, 5, 7)}}, []int{0}, []int{7}},
		// A lot that is full already, and one that is empty.
		{api.Orders{Lots: []api.CorkLot{lot(0, 30)}, Contracts: []api.Contract{contract(0, 30, 1000), contract(0, 30, 999)}}, []int{999}, []int{1, 0}},
		{api.Orders{Lots: []api.CorkLot{lot(3, 0)}, Contracts: []api.Contract{contract(2, 5, 9), contract(3, 5, 7), contract(4, 5, 8)}}, []int{8}, []int{0, 0, 0}},
		// A contract has the rent of the lot that asks least.
		{api.Orders{Lots: []api.CorkLot{lot(0, 1), lot(1, 1), lot(2, 1)}, Contracts: []api.Contract{contract(0, 2, 9), contract(2, 1, 4)}}, []int{9, 0, 0}, []int{0, 4}},
		{api.Orders{Lots: []api.CorkLot{lot(5, 3)}, Contracts: []api.Contract{contract(4, 3, 9), contract(5, 0, 6)}}, []int{0}, []int{0, 6}},
	} {
		if lots, contracts, e := desk.Rents(x.o); !slices.Equal(lots, x.lots) || !slices.Equal(contracts, x.contracts) || e != api.OK {
			t.Error(i, lots, contracts, e)
		}
	}
}

// P10.3: what rents are together, and whether they prove it.
func TestProves(t *testing.T) {
	o := exampleOrders()
	for i, x := range []struct {
		o               api.Orders
		lots, contracts []int
		total           int
		ok              bool
		e               api.Errno
	}{
		{o, []int{0, 0}, []int{9, 5}, 28, true, api.OK},
		{o, []int{0, 0}, []int{8, 5}, 26, false, api.OK},
		{o, []int{0, 0}, []int{9, 4}, 26, false, api.OK},
		{o, []int{1, 0}, []int{8, 5}, 29, true, api.OK}, // only corks of the first lot can go to the first contract
		{o, []int{0, 1}, []int{9, 4}, 28, false, api.OK},
		{o, []int{1, 1}, []int{8, 4}, 29, true, api.OK},
		{o, []int{9, 5}, []int{0, 0}, 37, true, api.OK},
		{o, []int{9, 4}, []int{0, 0}, 35, false, api.OK},
		{o, []int{0, 0}, []int{0, 0}, 0, false, api.OK},
		{o, []int{1000, 1000}, []int{1000, 1000}, 9000, true, api.OK},
		// Lots and contracts without corks are looked at, too.
		{api.Orders{Lots: []api.CorkLot{lot(0, 0)}, Contracts: []api.Contract{contract(0, 0, 3)}}, []int{1}, []int{1}, 0, false, api.OK},
		{api.Orders{Lots: []api.CorkLot{lot(0, 0)}, Contracts: []api.Contract{contract(0, 0, 3)}}, []int{1}, []int{2}, 0, true, api.OK},
		{api.Orders{Lots: []api.CorkLot{lot(1, 5)}, Contracts: []api.Contract{contract(0, 5, 3)}}, []int{0}, []int{0}, 0, true, api.OK},
		{api.Orders{}, nil, nil, 0, true, api.OK},
		{api.Orders{Lots: []api.CorkLot{lot(0, 7)}}, []int{3}, []int{}, 21, true, api.OK},
		{api.Orders{Contracts: []api.Contract{contract(0, 7, 9)}}, nil, []int{2}, 14, true, api.OK},
		{api.Orders{}, []int{0}, nil, 0, false, api.ErrCount},
		{api.Orders{}, nil, []int{0}, 0, false, api.ErrCount},
		{o, []int{0}, []int{9, 5, 0}, 0, false, api.ErrCount},
		{o, []int{-1, 0}, []int{9}, 0, false, api.ErrCount},
		{o, []int{-1, 0}, []int{9, 5}, 0, false, api.ErrValue},
		{o, []int{0, 0}, []int{9, 1001}, 0, false, api.ErrValue},
	} {
		if total, ok, e := desk.Proves(x.o, x.lots, x.contracts); total != x.total || ok != x.ok || e != x.e {
			t.Error(i, total, ok, e)
		}
	}
}

// P10.8: if any rents prove it, no filling is worth more than their total.
func TestProofsHold(t *testing.T) {
	r := rand.New(rand.NewSource(11))
	proved, not := 0, 0
	for range 5 * often {
		o := someOrders(r, api.MaxLots, api.MaxCount)
		lots, contracts, _ := desk.Rents(o)
		for _, l := range [][]int{lots, contracts} {
			for i := range l {
				if r.Intn(3) == 0 {
					l[i] = min(max(0, l[i]+r.Intn(7)-3), api.MaxOffer)
				}
			}
		}
		enough, together := true, 0
		for i, l := range o.Lots {
			together += l.Count * lots[i]
			for j, c := range o.Contracts {
				enough = enough && (c.Class < l.Class || lots[i]+contracts[j] >= c.Price)
			}
		}
		for j, c := range o.Contracts {
			together += c.Count * contracts[j]
		}
		total, ok, e := desk.Proves(o, lots, contracts)
		if ok != enough || total != together || e != api.OK {
			t.Fatal(o, lots, contracts, total, ok, e)
		}
		if !ok {
			not++
		} else if _, worth, _ := desk.Fill(o); worth > total {
			t.Fatal(o, lots, contracts, total, worth)
		} else if worth < total {
			proved++
		}
	}
	if proved < often/10 || not < often/10 {
		t.Error("too few proofs of a kind", proved, not)
	}
}
