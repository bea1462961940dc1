package yard_test

import (
	"math/rand"
	"strings"
	"testing"

	"sobreiro/api"
	"sobreiro/yard"
)

const (
	yardLine  = "yard;180;14\n"
	pileLine  = "pile;0;A;1000;1100;300;400\n"
	deedLines = pileLine + "rest;100;A;500;600\nboil;180;A;20;30;400;450\nscrape;194;A;10;20\nsplit;194;A;B;250;250\nweigh;200;B;380;390\nsell;200;A\n"
	allLines  = yardLine + deedLines // 8 lines
)

// P5.4: what is printed, and that it is parsed as it was.
func TestPrint(t *testing.T) {
	for i, x := range []struct {
		y    api.Yard
		want string
	}{
		{exampleYard(), allLines},
		{api.Yard{}, "yard;0;0\n"},
		{yardOf(400, 399), "yard;400;399\n"},
		{yardOf(0, 0, merge(2000, "A2345678", "Z-")), "yard;0;0\nmerge;2000;A2345678;Z-\n"},
		{yardOf(0, 0, pile(0, "A", bounds(0, api.MaxMass), known(api.MaxMass)), weigh(1, "A", known(0))), "yard;0;0\npile;0;A;0;100000000;100000000;100000000\nweigh;1;A;0;0\n"},
		// Whether the deeds have faults or not.
		{yardOf(0, 0, split(5, "A", "A", bounds(0, 1000)), merge(5, "B", "B"), sell(5, "C"), boil(5, "A", known(0), known(3000))), "yard;0;0\nsplit;5;A;A;0;1000\nmerge;5;B;B\nsell;5;C\nboil;5;A;0;0;3000;3000\n"},
	} {
		if s, e := yard.Print(x.y); s != x.want || e != api.OK {
			t.Error(i, s, e)
		}
		for _, text := range []string{x.want, strings.TrimSuffix(x.want, "\n")} {
			if y, n, e := yard.Parse(text); !sameYard(y, x.y) || n != 0 || e != api.OK {
				t.Error(i, y, n, e)
			}
		}
	}
}

// P5.4: what is printed is parsed as it was, and printed as it was.
func TestPrintedIsParsed(t *testing.T) {
	r := rand.New(rand.NewSource(11))
	for range often {
		y := yardOf(r.Intn(401), r.Intn(401))
		for day := range r.Intn(api.MaxDeeds + 1) {
			y.Deeds = append(y.Deeds, someDeed(r, 50*day+r.Intn(50)))
		}
		text, e := yard.Print(y)
		if e != api.OK {
			t.Fatal(y, e)
		}
		p, n, e := yard.Parse(text)
		again, _ := yard.Print(p)
		if !sameYard(p, y) || n != 0 || e != api.OK || again != text {
			t.Fatal(text, p, n, e)
		}
	}
}

// notParsed checks that a text has an error, with the number of a line.
func notParsed(t *testing.T, text string, line int, want api.Errno) {
	t.Helper()
	y, n, e := yard.Parse(text)
	if !sameYard(y, api.Yard{}) || n != line || e != want {
		t.Errorf("%.80q: %v, %d, %d", text, y, n, e)
	}
}

// P5.4: the first line that is wrong.
func TestParseWrongLines(t *testing.T) {
	for _, x := range []struct {
		text string
		line int
	}{
		{"\n", 1}, {"x", 1}, {";", 1}, {"\n" + allLines, 1}, {allLines + "\n", 9}, {yardLine + "\n", 2}, {yardLine + "\n" + deedLines, 2}, {yardLine + ";0;A\n", 2}, {yardLine + ";0;A;1;1\n", 2},
		// yard
		{"yard", 1}, {"yard\n", 1}, {"yard;180\n", 1}, {"yard;180;14;0\n", 1}, {"yard;180;\n", 1}, {"yard;;14\n", 1}, {"yard;x;14\n", 1}, {"yard;180;-0\n", 1}, {"yard;0180;14\n", 1}, {"yard;+180;14\n", 1}, {"yard;180;14\r\n", 1}, {"yard;1234567890;14\n", 1},
		{"Yard;180;14\n", 1}, {"yards;180;14\n", 1}, {" yard;180;14\n", 1}, {";180;14\n", 1}, {"yard 180 14\n", 1},
		{deedLines, 1}, {pileLine, 1}, {"sell;0;A\n", 1}, {pileLine + yardLine, 1}, {yardLine + yardLine, 2}, {allLines + yardLine, 9}, {yardLine + pileLine + yardLine + "x", 3},
		// pile
		{yardLine + "pile\n", 2}, {yardLine + "pile;0;A\n", 2}, {yardLine + "pile;0;A;1;2;3\n", 2}, {yardLine + "pile;0;A;1;2;3;4;5\n", 2}, {yardLine + "pile;0;A;1;2;3;x\n", 2}, {yardLine + "pile;x;A;1;2;3;4\n", 2}, {yardLine + "pile;A;0;1;2;3;4\n", 2}, {yardLine + "pile;0;A;;2;3;4\n", 2}, {yardLine + "piles;0;A;1;2;3;4\n", 2}, {yardLine + "PILE;0;A;1;2;3;4\n", 2}, {yardLine + "pile;0;A;B;1;2;3;4\n", 2}, {yardLine + "pile;0;A;1;2;3;1234567890\n", 2}, {yardLine + "pile;00;A;1;2;3;4\n", 2}, {yardLine + "pile;;A;1;2;3;4\n", 2},
		// rest
		{allLines + "rest\n", 9}, {allLines + "rest;200;A\n", 9}, {allLines + "rest;200;A;1\n", 9}, {allLines + "rest;200;A;1;2;3\n", 9}, {allLines + "rest;200;A;1;2;0;0\n", 9}, {allLines + "rest;200;A;B;1;2\n", 9}, {allLines + "rest;200;1;2\n", 9}, {allLines + "rest;200;A;1;2 \n", 9},
		// boil
		{allLines + "boil\n", 9}, {allLines + "boil;200;A;1;2\n", 9}, {allLines + "boil;200;A;1;2;3\n", 9}, {allLines + "boil;200;A;1;2;3;4;5\n", 9}, {allLines + "boil;200;A;1;2;3;-\n", 9},
		// scrape
		{allLines + "scrape\n", 9}, {allLines + "scrape;200;A;1\n", 9}, {allLines + "scrape;200;A;1;2;3;4\n", 9}, {allLines + "scrape;200;A;x;2\n", 9},
		// split
		{allLines + "split\n", 9}, {allLines + "split;200;A;1;2\n", 9}, {allLines + "split;200;A;B\n", 9}, {allLines + "split;200;A;B;1\n", 9}, {allLines + "split;200;A;B;1;2;3\n", 9}, {allLines + "split;A;B;200;1;2\n", 9}, {allLines + "split;200;A;B;1;x\n", 9}, {allLines + "split;200;A;B;1;2;3;4\n", 9},
		// merge
		{allLines + "merge\n", 9}, {allLines + "merge;200;A\n", 9}, {allLines + "merge;200;A;B;C\n", 9}, {allLines + "merge;200;A;B;0;0\n", 9}, {allLines + "merge;A;B;200\n", 9}, {allLines + "merge;200;A;B;\n", 9},
		// weigh
		{allLines + "weigh\n", 9}, {allLines + "weigh;200;A\n", 9}, {allLines + "weigh;200;A;1\n", 9}, {allLines + "weigh;200;A;1;2;3\n", 9}, {allLines + "weigh;200;A;1;02\n", 9},
		// sell
		{allLines + "sell\n", 9}, {allLines + "sell;200\n", 9}, {allLines + "sell;200;A;\n", 9}, {allLines + "sell;200;A;1;2\n", 9}, {allLines + "sell;200;A;B\n", 9}, {allLines + "sell;x;A\n", 9}, {allLines + "sells;200;A\n", 9}, {allLines + "nothing;200;A\n", 9},
		// The first of several, and before what is wrong in the yard.
		{yardLine + pileLine + "x\ny\n", 3}, {"yard;-1;999\nx\n", 2}, {yardLine + "sell;0;a\nx\n", 3}, {yardLine + strings.Repeat("sell;0;A\n", 41) + "x", 43}, {yardLine + "sell;5;A\nsell;4;A\nsell;x;A\nx\n", 4},
	} {
		notParsed(t, x.text, x.line, api.ErrText)
	}
}

// P5.4: no line, and what is wrong in a yard whose lines all have their form.
func TestParseWrongYards(t *testing.T) {
	notParsed(t, "", 0, api.ErrText)
	for _, x := range []struct {
		text string
		want api.Errno
	}{
		{"yard;-1;14\n", api.ErrValue},
		{"yard;401;14\n", api.ErrValue},
		{"yard;180;-1", api.ErrValue},
		{"yard;180;401\n" + deedLines, api.ErrValue},
		{"yard;999999999;14\n" + strings.Repeat("sell;0;a\n", 41), api.ErrValue},
		{yardLine + strings.Repeat("sell;0;a\n", 41), api.ErrCount},
		{yardLine + "sell;-1;A\n", api.ErrValue},
		{yardLine + "sell;2001;a\n", api.ErrValue},
		{allLines + "sell;199;a\n", api.ErrOrder},
		{allLines + "sell;200;a\n", api.ErrCode},
		{allLines + "sell;200;\n", api.ErrCode},
		{allLines + "sell;200;12\n", api.ErrCode},
		{allLines + "sell;200; A\n", api.ErrCode},
		{allLines + "sell;200;A\r\n", api.ErrCode},
		{allLines + "sell;200;\xff\n", api.ErrCode},
		{allLines + "sell;200;A23456789\n", api.ErrCode},
		{allLines + "split;200;a;B;2;1\n", api.ErrCode},
		{allLines + "split;200;A;;2;1\n", api.ErrCode},
		{allLines + "merge;200;A;b\n", api.ErrCode},
		{allLines + "split;200;A;B;2;1\n", api.ErrValue},
		{allLines + "split;200;A;B;0;1001\n", api.ErrValue},
		{allLines + "rest;200;A;-1;5\n", api.ErrValue},
		{allLines + "boil;200;A;0;0;0;3001\n", api.ErrValue},
		{allLines + "pile;200;A;0;0;1;0\n", api.ErrValue},
		{allLines + "weigh;200;A;0;100000001\n", api.ErrValue},
	} {
		notParsed(t, x.text, 0, x.want)
	}
	if y, n, e := yard.Parse(yardLine + strings.Repeat("sell;0;A\n", 40)); len(y.Deeds) != 40 || n != 0 || e != api.OK {
		t.Error(y, n, e)
	}
}

// P5.4: a text has at most MaxText bytes, whatever its lines are.
func TestParseLongTexts(t *testing.T) {
	long := strings.Repeat("\n", api.MaxText)
	notParsed(t, long, 1, api.ErrText)
	notParsed(t, long+"\n", 0, api.ErrCount)
	full := yardLine + strings.Repeat("sell;0;A\n", (api.MaxText-len(yardLine)-1)/9)
	notParsed(t, full, 0, api.ErrCount)
	full += strings.Repeat("x", api.MaxText-len(full))
	notParsed(t, full, 1+strings.Count(full, "\n"), api.ErrText)
	notParsed(t, full+"x", 0, api.ErrCount)
}

// P0.1: any text is parsed without a panic, and what is parsed is printed so.
func TestParseAnyText(t *testing.T) {
	r := rand.New(rand.NewSource(12))
	pieces := []string{"yard", "pile", "rest", "split", "merge", "sell", ";", ";", "\n", "\n", "0", "1", "200", "-", "A", "B", "", " ", "\r", "\xff", pileLine, "sell;200;A\n", "merge;200;A;B\n", "split;200;A;B;1;2\n", "boil;200;A;1;2;3;4\n"}
	parsed := 0
	for range 20000 {
		var b strings.Builder
		if r.Intn(4) > 0 {
			b.WriteString(allLines)
		}
		for range r.Intn(9) {
			b.WriteString(pieces[r.Intn(len(pieces))])
		}
		y, n, e := yard.Parse(b.String())
		switch {
		case e != api.OK && (!sameYard(y, api.Yard{}) || n < 0):
			t.Fatalf("%q %v %d %d", b.String(), y, n, e)
		case e == api.OK:
			parsed++
			if text, e := yard.Print(y); n != 0 || e != api.OK || text != b.String() && text != b.String()+"\n" {
				t.Fatalf("%q %q %d %d", b.String(), text, n, e)
			}
		}
	}
	if parsed < 100 {
		t.Error("too few texts were parsed", parsed)
	}
}
