package desk_test

import (
	"math/rand"
	"slices"
	"strings"
	"testing"

	"sobreiro/api"
	"sobreiro/desk"
)

const (
	headLine     = "works;42;100;100;5;0;0;2;300\n"
	partnerLines = "partner;ANA;1\npartner;RUI;2\n"
	lawLine      = "law;25;9;700;20;25;30;3\n"
	treeLine     = "tree;S1;10;14;40;690;700;5;8;-1\n"
	entryLines   = "cut;10;S1;1000\nhire;10;8\nboil;20;S1;0;0;0;0\nsell;30;S1\n"
	toLaw        = headLine + partnerLines + lawLine // 4 lines
	toTree       = toLaw + treeLine                  // 5 lines
	allLines     = toTree + entryLines               // 9 lines
)

// P10.5: what is printed, and that it is parsed as it was.
func TestPrint(t *testing.T) {
	least := api.Works{Weight: 1, Forest: api.Forest{Law: api.Law{Rest: 1}}}
	history := exampleWorks()
	history.Forest.Trees = []api.Tree{exampleTree("S1"), exampleTree("S2"), exampleTree("Z")}
	history.Forest.Trees[0].Strips, history.Forest.Trees[0].Wounds = []api.Strip{{Year: 3, Height: 4}, {Year: 300, Height: 15000}}, []int{0, 300}
	history.Forest.Trees[1].Wounds, history.Forest.Trees[1].Dead = []int{7}, 0
	for i, x := range []struct {
		w    api.Works
		want string
	}{
		{exampleWorks(), allLines},
		{least, "works;0;0;0;0;0;0;1;0\nlaw;0;1;0;0;0;0;0\n"},
		{changed(func(w *api.Works) { w.Entries = nil }), toTree},
		{changed(func(w *api.Works) { w.Forest.Trees = nil }), toLaw + entryLines},
		{changed(func(w *api.Works) { w.Partners, w.Before, w.After = nil, 400, 399 }), "works;42;100;100;5;400;399;2;300\n" + lawLine + treeLine + entryLines},
		{history, toTree + "strip;3;4\nstrip;300;15000\nwound;0\nwound;300\ntree;S2;10;14;40;690;700;5;8;0\nwound;7\ntree;Z;10;14;40;690;700;5;8;-1\n" + entryLines},
		{
			having(hire(0, 1000), cut(0, "Z9-", 15000), rest(1, "A", bounds(2, 3)), boil(1, "A", bounds(4, 5), bounds(6, 3000)), scrape(1, "A", bounds(7, 100000000)), split(2, "A", "A", bounds(8, 9)), merge(3, "A", "B2345678"), weigh(4, "A", known(10)), sell(2000, "A")),
			toTree + "tree;S2;10;14;40;690;700;5;8;-1\nhire;0;1000\ncut;0;Z9-;15000\nrest;1;A;2;3\nboil;1;A;4;5;6;3000\nscrape;1;A;7;100000000\nsplit;2;A;A;8;9\nmerge;3;A;B2345678\nweigh;4;A;10;10\nsell;2000;A\n",
		},
	} {
		if s, e := desk.Print(x.w); s != x.want || e != api.OK {
			t.Error(i, s, e)
		}
		for _, text := range []string{x.want, strings.TrimSuffix(x.want, "\n")} {
			if w, n, e := desk.Parse(text); !sameWorks(w, x.w) || n != 0 || e != api.OK {
				t.Error(i, w, n, e)
			}
		}
	}
}

// P10.5: what is printed is parsed as it was, and printed as it was, whether a year has faults or not.
func TestPrintedIsParsed(t *testing.T) {
	r := rand.New(rand.NewSource(16))
	for range often {
		w := someWorks(r, r.Intn(api.MaxEntries+1), true, false)
		text, e := desk.Print(w)
		if e != api.OK {
			t.Fatal(w, e)
		}
		got, n, e := desk.Parse(text)
		again, _ := desk.Print(got)
		if !sameWorks(got, w) || n != 0 || e != api.OK || again != text {
			t.Fatal(text, got, n, e)
		}
	}
}

// notParsed checks that a text has an error, with the number of a line.
func notParsed(t *testing.T, text string, line int, want api.Errno) {
	t.Helper()
	w, n, e := desk.Parse(text)
	if !sameWorks(w, api.Works{}) || w.Partners != nil || w.Entries != nil || w.Forest.Trees != nil || n != line || e != want {
		t.Errorf("%.200q: %v, %d, %d", text, w, n, e)
	}
}

// P10.5: the first line that does not have its form.
func TestParseWrongForms(t *testing.T) {
	for _, x := range []struct {
		text string
		line int
	}{
		{"\n", 1}, {"x", 1}, {";", 1}, {"\n" + allLines, 1}, {allLines + "\n", 10}, {headLine + "\n", 2}, {toLaw + "\n", 5}, {toTree + "\n" + entryLines, 6}, {headLine + ";0;0", 2}, {toTree + ";0;S1\n", 6}, {allLines + "x", 10},
		// works
		{"works", 1}, {"works\n" + partnerLines, 1}, {"works;42;100;100;5;0;0;2\n", 1}, {"works;42;100;100;5;0;0;2;300;0\n", 1}, {"works;42;100;100;5;0;0;2;\n", 1}, {"works;;100;100;5;0;0;2;300\n", 1}, {"works;42;100;100;x;0;0;2;300\n", 1}, {"works;42;100;100;5;0;-0;2;300\n", 1}, {"works;042;100;100;5;0;0;2;300\n", 1}, {"works;+42;100;100;5;0;0;2;300\n", 1}, {"works;42;100;100;5;0;0;2;300\r\n", 1}, {"works;42;100;100;5;0;0;2;1234567890\n", 1}, {"works;42; 100;100;5;0;0;2;300\n", 1}, {"Works;42;100;100;5;0;0;2;300\n", 1}, {"work;42;100;100;5;0;0;2;300\n", 1}, {" " + headLine, 1},
		// partner
		{headLine + "partner\n", 2}, {headLine + "partner;ANA\n", 2}, {headLine + "partner;ANA;1;1\n", 2}, {headLine + "partner;ANA;\n", 2}, {headLine + "partner;ANA;x\n", 2}, {headLine + "partner;ANA;01\n", 2}, {headLine + "partner;ANA;1234567890\n", 2}, {headLine + "partner;1;ANA\n", 2}, {headLine + "partners;ANA;1\n", 2}, {headLine + "Partner;ANA;1\n", 2}, {headLine + "partner;ANA;1\npartner;RUI;2 \n" + lawLine, 3},
		// law, tree, strip, wound
		{headLine + "law\n", 2}, {headLine + "law;25;9;700;20;25;30\n", 2}, {headLine + "law;25;9;700;20;25;30;3;1\n", 2}, {headLine + "law;25;9;700;20;x;30;3\n", 2}, {headLine + "law;25;9;700;20;25;30;03\n", 2}, {headLine + "Law;25;9;700;20;25;30;3\n", 2}, {headLine + "laws;25;9;700;20;25;30;3\n", 2},
		{toLaw + "tree\n", 5}, {toLaw + "tree;S1;10;14;40;690;700;5;8\n", 5}, {toLaw + "tree;S1;10;14;40;690;700;5;8;-1;1\n", 5}, {toLaw + "tree;10;14;40;690;700;5;8;-1\n", 5}, {toLaw + "tree;S1;10;14;40;690;700;5;8;--1\n", 5}, {toLaw + "trees;S1;10;14;40;690;700;5;8;-1\n", 5}, {toLaw + "tree;S1;10;14;40;690;700;5;;-1\n" + entryLines, 5},
		{toTree + "strip\n", 6}, {toTree + "strip;33\n", 6}, {toTree + "strip;33;1;1\n", 6}, {toTree + "strip;33;x\n", 6}, {toTree + "strip;33;01\n" + entryLines, 6}, {toTree + "Strip;33;1\n", 6},
		{toTree + "wound\n", 6}, {toTree + "wound;33;1\n", 6}, {toTree + "wound;\n", 6}, {toTree + "wound;x\n" + entryLines, 6}, {toTree + "wounds;33\n", 6},
		// cut, hire
		{toTree + "cut\n", 6}, {toTree + "cut;10;S1\n", 6}, {toTree + "cut;10;S1;1000;1\n", 6}, {toTree + "cut;10;S1;\n", 6}, {toTree + "cut;;S1;1000\n", 6}, {toTree + "cut;S1;10;1000\n", 6}, {toTree + "cut;10;S1;x\n", 6}, {toTree + "cut;010;S1;1000\n", 6}, {toTree + "cut;10;S1;1234567890\n", 6}, {toTree + "Cut;10;S1;1000\n", 6}, {toTree + "cuts;10;S1;1000\n", 6}, {toTree + "cut;10;S1;1000\r\n", 6},
		{toTree + "hire\n", 6}, {toTree + "hire;10\n", 6}, {toTree + "hire;10;8;1\n", 6}, {toTree + "hire;10;\n", 6}, {toTree + "hire;;8\n", 6}, {toTree + "hire;x;8\n", 6}, {toTree + "hire;10;08\n", 6}, {toTree + "Hire;10;8\n", 6}, {toTree + "hires;10;8\n", 6}, {toTree + "hire;10;S1;8\n", 6},
		// Deeds, but no pile, and no yard
		{toTree + "rest;1;A;2\n", 6}, {toTree + "rest;1;A;2;3;4;5\n", 6}, {toTree + "boil;1;A;2;3\n", 6}, {toTree + "boil;1;A;2;3;4;x\n", 6}, {toTree + "scrape;1;A\n", 6}, {toTree + "split;1;A;2;3\n", 6}, {toTree + "merge;1;A\n", 6}, {toTree + "merge;1;A;B;C\n", 6}, {toTree + "weigh;01;A;2;3\n", 6}, {toTree + "sell;1\n", 6}, {toTree + "sell\n", 6}, {toTree + "sell;1;A;B\n", 6}, {toTree + "sell;A;1\n", 6}, {toTree + "Sell;1;A\n", 6}, {toTree + "sells;1;A\n", 6}, {toTree + "nothing;1;A\n", 6},
		{toTree + "pile;1;A;1;1;1;1\n", 6}, {toTree + "pile\n", 6}, {toTree + "pile;1;A;1;1\n", 6}, {toTree + "yard;0;0\n", 6}, {toTree + "yard;180;14\n" + entryLines, 6},
		{allLines + "merge;30;A\n", 10}, {allLines + "pile;30;A;1;1;1;1\n", 10},
	} {
		notParsed(t, x.text, x.line, api.ErrText)
	}
}

// P10.5: the first line that does not stand in this order.
func TestParseWrongOrders(t *testing.T) {
	const partner, strip, wound, cut, hire, sell = "partner;EVA;1\n", "strip;33;1\n", "wound;30\n", "cut;10;S1;1000\n", "hire;10;8\n", "sell;30;S1\n"
	for _, x := range []struct {
		text string
		line int
	}{
		// The first line is works, and no other.
		{partner, 1}, {lawLine, 1}, {treeLine, 1}, {strip, 1}, {wound, 1}, {cut, 1}, {hire, 1}, {sell, 1}, {lawLine + headLine, 1}, {partnerLines + headLine, 1},
		{headLine + headLine, 2}, {headLine + partner + headLine, 3}, {toLaw + headLine, 5}, {toTree + headLine, 6}, {allLines + headLine, 10},
		// Partners stand before the law.
		{toLaw + partner, 5}, {toTree + partner, 6}, {toTree + strip + partner, 7}, {allLines + partner, 10}, {toLaw + partner + treeLine, 5},
		// There is one law, before all trees and entries.
		{toLaw + lawLine, 5}, {toTree + lawLine, 6}, {toTree + strip + lawLine, 7}, {allLines + lawLine, 10},
		{headLine + treeLine, 2}, {headLine + strip, 2}, {headLine + wound, 2}, {headLine + partner + treeLine + lawLine, 3}, {headLine + cut, 2}, {headLine + hire, 2}, {headLine + sell, 2}, {headLine + partnerLines + cut, 4}, {headLine + partnerLines + sell + lawLine, 4}, {headLine + cut + lawLine, 2},
		// A strip and a wound belong to the tree before them.
		{toLaw + strip, 5}, {toLaw + wound, 5}, {toLaw + strip + treeLine, 5}, {toTree + wound + strip, 7}, {toTree + strip + wound + strip, 8}, {allLines + strip, 10}, {allLines + wound, 10}, {toTree + cut + strip, 7}, {toTree + hire + wound + sell, 7},
		// Trees stand before all entries.
		{toLaw + cut + treeLine, 6}, {allLines + treeLine, 10}, {toTree + sell + treeLine + strip, 7}, {toTree + hire + lawLine, 7},
	} {
		notParsed(t, x.text, x.line, api.ErrText)
	}
	// The first of several, whether tree's lines are among them or not.
	for _, x := range []struct {
		text string
		line int
	}{
		{toLaw + "tree\nx\n", 5}, {toLaw + "tree\n" + partner, 5}, {toLaw + "tree\n" + cut, 5}, {toLaw + "tree\n" + cut + "cut\n", 5}, {toLaw + "x\ntree\n", 5}, {toLaw + strip + cut + treeLine, 5}, {toLaw + cut + treeLine + "strip\n", 6}, {toTree + wound + strip + cut + "x", 7}, {toTree + cut + strip + wound + strip, 7}, {toTree + "cut\n" + strip, 6}, {headLine + "law\n" + cut + "x\n", 2}, {headLine + "x\nlaw\n", 2}, {headLine + "partner\nlaw\n", 2}, {"works\nlaw\n", 1},
		// And before what is wrong in the works.
		{"works;999;0;0;0;0;0;0;0\nx\n", 2}, {headLine + "partner;a;1\n" + lawLine + "tree\n", 4}, {headLine + "law;0;0;0;0;0;0;0\n" + "cut\n", 3}, {toLaw + "tree;s;10;14;40;690;700;5;8;-1\nsell;1;A\nsell\n", 7}, {toTree + "sell;1;a\nsell\n", 7}, {toTree + "sell;9999;A\nx", 7}, {toTree + strings.Repeat(sell, 41) + "x", 47},
	} {
		notParsed(t, x.text, x.line, api.ErrText)
	}
}

// P10.5: no works or no law, and what is wrong in works whose lines all have their form.
func TestParseWrongWorks(t *testing.T) {
	for _, x := range []struct {
		text string
		want api.Errno
	}{
		{"", api.ErrText},
		{headLine, api.ErrText},
		{strings.TrimSuffix(headLine, "\n"), api.ErrText},
		{headLine + partnerLines, api.ErrText},
		{"works;999;0;0;0;0;0;0;0\n", api.ErrText},
		{headLine + strings.Repeat("partner;a;1\n", 7), api.ErrText},
		// The works' numbers, then the partners
		{"works;301;100;100;5;0;0;2;300\n" + lawLine, api.ErrValue},
		{"works;42;100;100;5;0;0;0;300\n" + lawLine, api.ErrValue},
		{"works;42;-1;100;5;0;0;2;300\npartner;a;1\n" + lawLine, api.ErrValue},
		{headLine + strings.Repeat("partner;ANA;1\n", 7) + lawLine, api.ErrCount},
		{headLine + "partner;ANA;1\npartner;ANA;1001\n" + lawLine, api.ErrRepeat},
		{headLine + "partner;;1\n" + lawLine, api.ErrCode},
		{headLine + "partner;ANA;1001\n" + "law;301;9;700;20;25;30;3\n", api.ErrValue},
		{headLine + "partner;a;1\n" + "law;301;9;700;20;25;30;3\n", api.ErrCode},
		// Then the forest
		{headLine + "law;25;0;700;20;25;30;3\n", api.ErrValue},
		{toTree + treeLine, api.ErrRepeat},
		{toLaw + "tree;s;10;14;40;690;700;5;8;-1\n" + entryLines, api.ErrCode},
		{toLaw + "tree;s;10;14;40;690;700;5;8;-1\ncut;9999;S1;0\n", api.ErrCode},
		{toTree + "strip;5;1\nstrip;5;1\n" + strings.Repeat("sell;1;a\n", 41), api.ErrOrder},
		{toLaw + strings.Repeat(treeLine, 21) + "sell;9999;a\n", api.ErrCount},
		{"works;42;100;100;5;0;0;2;3001\n" + partnerLines + lawLine + treeLine + treeLine, api.ErrValue},
		// Then the entries, the first one that has an error
		{toTree + strings.Repeat("sell;1;A\n", 41), api.ErrCount},
		{toTree + strings.Repeat("sell;1;a\n", 41), api.ErrCount},
		{toTree + strings.Repeat("sell;1;A\n", 40) + "sell;0;A\n", api.ErrCount},
		{toTree + "sell;5;A\nsell;4;A\n", api.ErrOrder},
		{toTree + "sell;5;A\nsell;4;a\n", api.ErrOrder},
		{toTree + "sell;5;a\nsell;4;A\n", api.ErrCode},
		{toTree + "sell;5;A\nsell;2001;a\n", api.ErrValue},
		{toTree + "sell;5;A\nsell;-1;a\n", api.ErrValue},
		{toTree + "sell;5;A\nsell;999999999;A\n", api.ErrValue},
		{toTree + "sell;5;a\ncut;5;S1;0\n", api.ErrCode},
		{toTree + "cut;5;S1;0\nsell;5;a\n", api.ErrValue},
		{toTree + "cut;5;;0\n", api.ErrCode},
		{toTree + "cut;5;S1;15001\n", api.ErrValue},
		{toTree + "hire;5;1001\n", api.ErrValue},
		{toTree + "hire;5;-1\n", api.ErrValue},
		{toTree + "hire;5;1\ncut;4;s;0\n", api.ErrOrder},
		{toTree + "sell;7;\n", api.ErrCode},
		{toTree + "rest;7;a;0;1001\n", api.ErrCode},
		{toTree + "rest;7;A;0;1001\n", api.ErrValue},
		{toTree + "rest;7;A;2;1\nsell;7;a\n", api.ErrValue},
		{toTree + "split;7;A;b;2;1\n", api.ErrCode},
		{toTree + "merge;7;A;\n", api.ErrCode},
		{toTree + "boil;7;A;0;0;0;3001\n", api.ErrValue},
		{toTree + "boil;7;A;0;1000;0;3000\nboil;6;A;0;0;0;3001\n", api.ErrOrder},
	} {
		notParsed(t, x.text, 0, x.want)
	}
	// A field that is a code can be anything in its line.
	notParsed(t, toTree+"sell;1;"+strings.Repeat("A", 50000)+"\n", 0, api.ErrCode)
	notParsed(t, toTree+"cut;1;\xff\x00;1\n", 0, api.ErrCode)
	notParsed(t, toTree+"sell;1;A\r\n", 0, api.ErrCode)
}

// unchecked prints works that may be invalid, as the chapter tells it.
func unchecked(w api.Works) string {
	lines := []string{lineOf("works", w.Year, w.Price, w.Commons, w.Wage, w.Before, w.After, w.Weight, w.Wet)}
	for _, p := range w.Partners {
		lines = append(lines, lineOf("partner;"+p.Code, p.Part))
	}
	l := w.Forest.Law
	lines = append(lines, lineOf("law", l.Age, l.Rest, l.Girth, l.Factors[0], l.Factors[1], l.Factors[2], l.Heal))
	for _, x := range w.Forest.Trees {
		lines = append(lines, lineOf("tree;"+x.Code, x.Born.Min, x.Born.Max, x.Taped, x.Girth.Min, x.Girth.Max, x.Grows.Min, x.Grows.Max, x.Dead))
		for _, s := range x.Strips {
			lines = append(lines, lineOf("strip", s.Year, s.Height))
		}
		for _, year := range x.Wounds {
			lines = append(lines, lineOf("wound", year))
		}
	}
	for _, n := range w.Entries {
		lines = append(lines, entryOf(n))
	}
	return strings.Join(lines, "\n") + "\n"
}

func entryOf(n api.Entry) string {
	d := n.Deed
	switch {
	case n.Kind == api.DkCut:
		return lineOf(lineOf("cut", n.Day)+";"+n.Tree, n.N)
	case n.Kind == api.DkHire:
		return lineOf("hire", n.Day, n.N)
	case d.Kind == api.YdBoil:
		return lineOf(lineOf("boil", d.Day)+";"+d.Stack, d.A.Min, d.A.Max, d.B.Min, d.B.Max)
	case d.Kind == api.YdSplit:
		return lineOf(lineOf("split", d.Day)+";"+d.Stack+";"+d.Other, d.A.Min, d.A.Max)
	case d.Kind == api.YdMerge:
		return lineOf("merge", d.Day) + ";" + d.Stack + ";" + d.Other
	case d.Kind == api.YdSell:
		return lineOf("sell", d.Day) + ";" + d.Stack
	default:
		word := map[api.DeedKind]string{api.YdRest: "rest", api.YdScrape: "scrape", api.YdWeigh: "weigh"}[d.Kind]
		return lineOf(lineOf(word, d.Day)+";"+d.Stack, d.A.Min, d.A.Max)
	}
}

// spoil makes something in works invalid, in what a text says of them.
func spoil(r *rand.Rand, w *api.Works) {
	n := []int{-1, -999999999, 999999999, 100001}[r.Intn(4)]
	code := []string{"", "a", "9", "A_", "A23456789", " A", "\xff"}[r.Intn(7)]
	entry := &w.Entries[r.Intn(len(w.Entries))]
	x := &w.Forest.Trees[r.Intn(len(w.Forest.Trees))]
	switch r.Intn(16) {
	case 0:
		*[]*int{&w.Year, &w.Price, &w.Commons, &w.Wage, &w.Before, &w.After, &w.Weight, &w.Wet}[r.Intn(8)] = n
	case 1:
		w.Partners = append(w.Partners, api.Partner{Code: code}, api.Partner{Code: "A", Part: n})
	case 2:
		w.Partners = append(w.Partners, api.Partner{Code: "A"}, api.Partner{Code: "A"})
	case 3:
		w.Partners = append(w.Partners, make([]api.Partner, 7)...)
	case 4:
		*[]*int{&w.Forest.Law.Age, &w.Forest.Law.Rest, &w.Forest.Law.Heal}[r.Intn(3)] = n
	case 5:
		*[]*int{&x.Born.Min, &x.Taped, &x.Girth.Max, &x.Grows.Min}[r.Intn(4)] = n
	case 6:
		x.Code = []string{code, "B"}[r.Intn(2)]
	case 7:
		x.Wounds = append(x.Wounds, n)
	case 8:
		w.Entries = append(w.Entries, make([]api.Entry, 41)...)
		for i := range w.Entries {
			w.Entries[i] = w.Entries[0]
		}
	case 9, 10:
		entry.Day = []int{entry.Day - 1, entry.Day + 1, n}[r.Intn(3)]
		if entry.Kind == api.DkDeed {
			entry.Deed.Day = entry.Day
		}
	case 11, 12:
		if entry.Kind == api.DkDeed {
			entry.Deed.Stack = code
		} else if entry.Kind == api.DkCut {
			entry.Tree = code
		}
	default:
		if entry.Kind != api.DkDeed {
			entry.N = n
		} else if entry.Deed.Kind != api.YdMerge && entry.Deed.Kind != api.YdSell {
			entry.Deed.A.Max = n
		} else if entry.Deed.Kind == api.YdMerge {
			entry.Deed.Other = code
		}
	}
}

// P10.5, R1: what Parse finds in works is what CheckWorks finds.
func TestParseChecks(t *testing.T) {
	r := rand.New(rand.NewSource(17))
	found := map[api.Errno]int{}
	for range 10 * often {
		w := someBare(r)
		for day := range 1 + r.Intn(20) {
			w.Entries = append(w.Entries, someEntry(r, 5+day/2, nil, false))
		}
		for range 1 + r.Intn(4) {
			spoil(r, &w)
		}
		want := desk.CheckWorks(w)
		found[want]++
		got, n, e := desk.Parse(unchecked(w))
		if n != 0 || e != want || e == api.OK && !sameWorks(got, w) || e != api.OK && !sameWorks(got, api.Works{}) {
			t.Fatal(w, got, n, e, want)
		}
	}
	for _, e := range []api.Errno{api.OK, api.ErrValue, api.ErrCount, api.ErrCode, api.ErrRepeat, api.ErrOrder} {
		if found[e] < often/10 {
			t.Error("too few errors of a kind", e, found)
		}
	}
}

// P10.5: a text has at most MaxText bytes, whatever its lines are.
func TestParseLongTexts(t *testing.T) {
	long := strings.Repeat("\n", api.MaxText)
	notParsed(t, long, 1, api.ErrText)
	notParsed(t, long+"\n", 0, api.ErrCount)
	for _, line := range []string{"wound;33\n", "hire;10;8\n", "sell;10;S1\n"} {
		full := toTree
		full += strings.Repeat(line, (api.MaxText-len(full)-1)/len(line))
		notParsed(t, full, 0, api.ErrCount)
		full += strings.Repeat("x", api.MaxText-len(full))
		notParsed(t, full, 1+strings.Count(full, "\n"), api.ErrText)
		notParsed(t, full+"x", 0, api.ErrCount)
	}
	// Lines that are nearly as long as a text can be.
	const works, law, sell = "works;0;0;0;0;0;0;1;0\n", "law;0;1;0;0;0;0;0\n", "sell;1;"
	filled := func(head string, less int) string { return head + strings.Repeat("A", api.MaxText-len(head)-less) }
	for less := range 40 {
		notParsed(t, filled(sell, less), 1, api.ErrText)
		notParsed(t, filled(works+sell, less), 2, api.ErrText)
		notParsed(t, filled(works+law+sell, less), 0, api.ErrCode)
		notParsed(t, filled(works+law, less), 3, api.ErrText)
		notParsed(t, filled(works+law+"tree;", less), 3, api.ErrText)
	}
	notParsed(t, filled(sell, 0)+"A", 0, api.ErrCount)
	notParsed(t, filled(works+law+sell, 0)+"A", 0, api.ErrCount)
}

// R4: what is parsed has nothing in common with what else is.
func TestParsedIsNew(t *testing.T) {
	text := toTree + "strip;30;1\nwound;30\n" + entryLines
	w, _, _ := desk.Parse(text)
	other, _, _ := desk.Parse(text)
	clear(w.Partners)
	clear(w.Entries)
	clear(w.Forest.Trees[0].Strips)
	clear(w.Forest.Trees[0].Wounds)
	clear(w.Forest.Trees)
	want := exampleWorks()
	want.Forest.Trees[0].Strips, want.Forest.Trees[0].Wounds = []api.Strip{{Year: 30, Height: 1}}, []int{30}
	if !sameWorks(other, want) {
		t.Error(other)
	}
}

// P0.1: any text is parsed without a panic, and what is parsed is printed so.
func TestParseAnyText(t *testing.T) {
	r := rand.New(rand.NewSource(18))
	pieces := []string{"works", "law", "tree", "cut", "sell", "pile", ";", ";", "\n", "\n", "0", "1", "12", "-", "", " ", "\r", "\xff", "partner;EVA;7\n", "hire;30;1\n", "hire;5;1", "cut;30;S2;1\n", "sell;30;A\n", "sell;31;a\n", "merge;30;A;B\n", "strip;30;1\n", "wound;30\n", treeLine, lawLine, "yard;0;0\n"}
	parsed := 0
	for range 20000 {
		var b strings.Builder
		if r.Intn(4) > 0 {
			b.WriteString([]string{headLine, toLaw, toTree, allLines}[r.Intn(4)])
		}
		for range r.Intn(9) {
			b.WriteString(pieces[r.Intn(len(pieces))])
		}
		w, n, e := desk.Parse(b.String())
		switch {
		case e != api.OK && (!sameWorks(w, api.Works{}) || n < 0 || n > 1+strings.Count(b.String(), "\n")):
			t.Fatalf("%q %v %d %d", b.String(), w, n, e)
		case e == api.OK:
			parsed++
			if text, e := desk.Print(w); n != 0 || e != api.OK || text != b.String() && text != b.String()+"\n" {
				t.Fatalf("%q %q %d %d", b.String(), text, n, e)
			}
		}
	}
	if parsed < 100 {
		t.Error("too few texts were parsed", parsed)
	}
}

// P10.5: the lines of works are sealed and opened as they were.
func TestWorksAreSealed(t *testing.T) {
	r := rand.New(rand.NewSource(19))
	for range often / 5 {
		text, _ := desk.Print(someWorks(r, r.Intn(api.MaxEntries+1), false, false))
		lines := strings.Split(text, "\n")
		sealed, e := desk.Seal(lines)
		if opened, n, f := desk.Open(sealed); !slices.Equal(opened, lines) || n != 0 || e != api.OK || f != api.OK {
			t.Fatal(text, opened, n, e, f)
		}
	}
}
