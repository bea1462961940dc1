package desk_test

import (
	"math/rand"
	"slices"
	"testing"

	"sobreiro/api"
	"sobreiro/desk"
)

func sumOf(l []int) (sum int) {
	for _, n := range l {
		sum += n
	}
	return sum
}

// P10.2: the chapter's example, and edges.
func TestShare(t *testing.T) {
	for i, x := range []struct {
		sum         int
		parts, want []int
	}{
		{10, []int{1, 1, 1}, []int{3, 3, 4}},
		{11, []int{1, 1, 1}, []int{3, 4, 4}},
		{1224, []int{1, 2}, []int{408, 816}},
		{10, []int{2, 1}, []int{6, 4}},
		{10, []int{1, 2}, []int{3, 7}},
		{10, []int{0, 1, 0, 1, 0}, []int{0, 5, 0, 5, 0}},
		{1, []int{1, 1, 1, 1, 1, 1}, []int{0, 0, 0, 0, 0, 1}},
		{5, []int{1, 1, 1, 1, 1, 1}, []int{0, 1, 1, 1, 1, 1}},
		{0, []int{1, 2}, []int{0, 0}},
		{7, []int{1000}, []int{7}},
		// Nobody has a part.
		{10, []int{0, 0}, []int{0, 0}},
		{api.MaxSum, []int{0}, []int{0}},
		{10, nil, nil},
		{api.MaxSum, []int{}, nil},
		{api.MaxSum, []int{1000, 1000, 1000, 1000, 1000, 1000}, []int{166666666, 166666667, 166666667, 166666666, 166666667, 166666667}},
		{api.MaxSum, []int{1000, 1, 1000}, []int{499750124, 499751, 499750125}},
	} {
		if l, e := desk.Share(x.sum, x.parts); !slices.Equal(l, x.want) || e != api.OK {
			t.Error(i, l, e)
		}
	}
}

// P10.2, P10.7, P0.4: shares are those of the chapter, nothing is lost, and each lies less than 1 from the exact one.
func TestSharesAddUp(t *testing.T) {
	r := rand.New(rand.NewSource(6))
	for range 20 * often {
		sum := r.Intn([]int{10, 1000, api.MaxSum + 1}[r.Intn(3)])
		var parts []int
		most := []int{2, 10, api.MaxPart + 1}[r.Intn(3)]
		for range r.Intn(api.MaxPartners + 1) {
			parts = append(parts, r.Intn(most))
		}
		l, e := desk.Share(sum, parts)
		if len(l) != len(parts) || e != api.OK {
			t.Fatal(sum, parts, l, e)
		}
		total := sumOf(parts)
		if total == 0 {
			if sumOf(l) != 0 {
				t.Fatal(sum, parts, l)
			}
			continue
		}
		for i, share := range l {
			want := sumOf(parts[:i+1])*sum/total - sumOf(parts[:i])*sum/total
			off := share*total - sum*parts[i]
			if share != want || off <= -total || off >= total || share < 0 {
				t.Fatal(sum, parts, l, i)
			}
		}
		if sumOf(l) != sum {
			t.Fatal(sum, parts, l)
		}
	}
}

// P10.2: the chapter's example, and what nobody gets.
func TestSettle(t *testing.T) {
	parts := func(parts ...int) []api.Partner {
		var l []api.Partner
		for i, part := range parts {
			l = append(l, api.Partner{Code: string(rune('A' + i)), Part: part})
		}
		return l
	}
	for i, x := range []struct {
		change func(w *api.Works)
		want   api.Settlement
		e      api.Errno
	}{
		{func(w *api.Works) {}, api.Settlement{Wages: 40, Commons: 136, Shares: []int{408, 816}}, api.OK},
		{func(w *api.Works) { w.Commons = 0 }, api.Settlement{Wages: 40, Shares: []int{453, 907}}, api.OK},
		{func(w *api.Works) { w.Commons = 1 }, api.Settlement{Wages: 40, Commons: 1, Shares: []int{453, 906}}, api.OK},
		{func(w *api.Works) { w.Commons = 999 }, api.Settlement{Wages: 40, Commons: 1358, Shares: []int{0, 2}}, api.OK},
		{func(w *api.Works) { w.Commons = 1000 }, api.Settlement{Wages: 40, Commons: 1360, Shares: []int{0, 0}}, api.OK},
		{func(w *api.Works) { w.Partners = nil }, api.Settlement{Wages: 40, Commons: 136, Left: 1224}, api.OK},
		{func(w *api.Works) { w.Partners = parts(0, 0, 0) }, api.Settlement{Wages: 40, Commons: 136, Shares: []int{0, 0, 0}, Left: 1224}, api.OK},
		{func(w *api.Works) { w.Partners = parts(0, 7, 0) }, api.Settlement{Wages: 40, Commons: 136, Shares: []int{0, 1224, 0}}, api.OK},
		{func(w *api.Works) { w.Partners, w.Wage = parts(1, 1, 1, 1, 1, 1), 0 }, api.Settlement{Commons: 140, Shares: []int{210, 210, 210, 210, 210, 210}}, api.OK},
		// Wages take what was surely earned, and no more.
		{func(w *api.Works) { w.Wage = 175 }, api.Settlement{Wages: 1400, Shares: []int{0, 0}}, api.OK},
		{func(w *api.Works) { w.Wage = 176 }, api.Settlement{}, api.ErrRoom},
		{func(w *api.Works) { w.Wage, w.Entries[1].N = 1, 1400-400 }, api.Settlement{Wages: 1000, Commons: 40, Shares: []int{120, 240}}, api.OK},
		{func(w *api.Works) { w.Price = 0 }, api.Settlement{}, api.ErrRoom},
		{func(w *api.Works) { w.Price, w.Entries[1].N = 0, 0 }, api.Settlement{Shares: []int{0, 0}}, api.OK},
		{func(w *api.Works) { w.Entries = nil }, api.Settlement{Shares: []int{0, 0}}, api.OK},
		{func(w *api.Works) { w.Entries = w.Entries[:3] }, api.Settlement{}, api.ErrRoom},
		// A fault, wherever it is.
		{func(w *api.Works) { w.Entries[0].N = 1433 }, api.Settlement{}, api.ErrAgainst},
		{func(w *api.Works) { w.Entries = append(w.Entries, sell(30, "S1")) }, api.Settlement{}, api.ErrAgainst},
		{func(w *api.Works) { w.Price = 0; w.Entries = append(w.Entries, sell(30, "S1")) }, api.Settlement{}, api.ErrAgainst},
	} {
		s, e := desk.Settle(changed(x.change))
		if !sameSettlement(s, x.want) || e != x.e {
			t.Error(i, s, e)
		}
	}
}

func sameSettlement(a, b api.Settlement) bool {
	return a.Wages == b.Wages && a.Commons == b.Commons && a.Left == b.Left && slices.Equal(a.Shares, b.Shares)
}

// P10.2: not more than MaxSum is divided.
func TestSettleMuch(t *testing.T) {
	w := richWorks()
	for i, x := range []struct {
		change func(w *api.Works)
		want   api.Settlement
	}{
		{func(w *api.Works) {}, api.Settlement{Left: api.MaxSum}},
		{func(w *api.Works) { w.Partners = []api.Partner{{Code: "A", Part: 1}, {Code: "B", Part: 3}} }, api.Settlement{Shares: []int{250000000, 750000000}}},
		{func(w *api.Works) { w.Commons = 250 }, api.Settlement{Commons: 250000000, Left: 750000000}},
		{func(w *api.Works) {
			w.Wage, w.Commons = api.MaxWage, 1000
			w.Entries = append(w.Entries, slices.Repeat([]api.Entry{hire(0, api.MaxDays)}, 28)...)
		}, api.Settlement{Wages: 280000000, Commons: 720000000}},
	} {
		w := copyWorks(w)
		x.change(&w)
		if s, e := desk.Settle(w); !sameSettlement(s, x.want) || e != api.OK {
			t.Error(i, s, e)
		}
	}
}

// P10.2, P10.7, P0.4: wages, commons, shares and what nobody gets are together what was surely earned.
func TestSettlementsAddUp(t *testing.T) {
	r := rand.New(rand.NewSource(7))
	settled, poor, against := 0, 0, 0
	for range often {
		w := someWorks(r, 1+r.Intn(api.MaxEntries), true, false)
		y, _, fault := taleOf(w).upTo(len(w.Entries))
		s, e := desk.Settle(w)
		earned := min(y.Earned.Min, api.MaxSum)
		switch wages := w.Wage * y.Days; {
		case fault != api.DeskFault{}:
			against++
			if !sameSettlement(s, api.Settlement{}) || e != api.ErrAgainst {
				t.Fatal(w, s, e)
			}
		case wages > earned:
			poor++
			if !sameSettlement(s, api.Settlement{}) || e != api.ErrRoom {
				t.Fatal(w, s, e)
			}
		default:
			if earned > 0 {
				settled++
			}
			commons := (earned - wages) * w.Commons / 1000
			var parts []int
			for _, p := range w.Partners {
				parts = append(parts, p.Part)
			}
			shares, _ := desk.Share(earned-wages-commons, parts)
			if s.Wages != wages || s.Commons != commons || !slices.Equal(s.Shares, shares) || s.Wages+s.Commons+sumOf(s.Shares)+s.Left != earned || e != api.OK {
				t.Fatal(w, s, e)
			}
			if sumOf(parts) > 0 && s.Left != 0 {
				t.Fatal(w, s)
			}
		}
	}
	if settled < often/20 || poor < often/20 || against < often/20 {
		t.Error("too few of a kind", settled, poor, against)
	}
}
