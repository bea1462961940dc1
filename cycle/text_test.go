package cycle_test

import (
	"math/rand"
	"strings"
	"testing"

	"sobreiro/api"
	"sobreiro/cycle"
)

const (
	schemeLine = "scheme;9;3;0;10;2;30;0\n"
	standA     = "stand;A;100;0;9;5\nyield;10;12\nyield;14;15\nyield;15;18\n"
	standB     = "stand;B;50;100;8;6\nyield;20;20\nyield;21;30\n"
	headLines  = schemeLine + standA + standB // 8 lines
	stripLines = "strip;1;B\nstrip;2;A\n"
	allLines   = headLines + stripLines
)

// P4.4: what is printed, and that it is parsed as it was.
func TestPrint(t *testing.T) {
	full := api.Scheme{Rest: 30, Term: 1, Floor: 999999999, Teams: 10000, Price: 1000, Wage: 10000, Left: 999999998, Stands: []api.Stand{{Code: "S-1", Trees: 10000, Dies: 1000, Since: 60, Days: 999, Yields: []api.Bounds{bounds(0, 10000)}}}}
	for i, x := range []struct {
		s    api.Scheme
		plan [][]int
		want string
	}{
		{exampleScheme(), planOf(nil, years(1), years(0)), allLines},
		{exampleScheme(), planOf(nil, nil, nil), headLines},
		// By year and then by stand, whether the plan has a fault or not.
		{exampleScheme(), planOf(years(0, 1), nil, years(0, 1)), headLines + "strip;0;A\nstrip;0;B\nstrip;2;A\nstrip;2;B\n"},
		{api.Scheme{Rest: 1, Term: 2}, planOf(nil, nil), "scheme;1;2;0;0;0;0;0\n"},
		{full, planOf(years(0)), "scheme;30;1;999999999;10000;1000;10000;999999998\nstand;S-1;10000;1000;60;999\nyield;0;10000\nstrip;0;S-1\n"},
	} {
		if s, e := cycle.Print(x.s, x.plan); s != x.want || e != api.OK {
			t.Error(i, s, e)
		}
		for _, text := range []string{x.want, strings.TrimSuffix(x.want, "\n")} {
			if s, plan, n, e := cycle.Parse(text); !sameScheme(s, x.s) || !samePlan(plan, x.plan) || n != 0 || e != api.OK {
				t.Error(i, s, plan, n, e)
			}
		}
	}
}

// P4.4: what is printed is parsed as it was, and printed as it was.
func TestPrintedIsParsed(t *testing.T) {
	r := rand.New(rand.NewSource(13))
	for range 10 * often {
		s := greatScheme(r)
		s.Floor, s.Left = r.Intn(api.MaxFloor+1), r.Intn(api.MaxFloor+1)
		plan := somePlan(r, s, 1+r.Intn(5))
		text, e := cycle.Print(s, plan)
		if e != api.OK {
			t.Fatal(s, plan, e)
		}
		p, q, n, e := cycle.Parse(text)
		again, _ := cycle.Print(p, q)
		if !sameScheme(p, s) || !samePlan(q, plan) || n != 0 || e != api.OK || again != text {
			t.Fatal(text, p, q, n, e)
		}
	}
}

// notParsed checks that a text has an error, with the number of a line.
func notParsed(t *testing.T, text string, line int, want api.Errno) {
	t.Helper()
	s, plan, n, e := cycle.Parse(text)
	if !sameScheme(s, api.Scheme{}) || plan != nil || n != line || e != want {
		t.Errorf("%.80q: %v, %v, %d, %d", text, s, plan, n, e)
	}
}

// P4.4: the first line that is wrong.
func TestParseWrongLines(t *testing.T) {
	for _, x := range []struct {
		text string
		line int
	}{
		{"\n", 1}, {"x", 1}, {";", 1}, {"\n" + allLines, 1}, {allLines + "\n", 11}, {headLines + "\n", 9}, {schemeLine + "\n", 2},
		// scheme
		{"scheme", 1}, {"scheme\n", 1}, {"scheme;9;3;0;10;2;30\n", 1}, {"scheme;9;3;0;10;2;30;0;0\n", 1}, {"scheme;9;3;0;10;2;30;\n", 1}, {"scheme;9;3;0;x;2;30;0\n", 1},
		{"scheme;9;3;0;10;2;30;-0\n", 1}, {"scheme;09;3;0;10;2;30;0\n", 1}, {"scheme;+9;3;0;10;2;30;0\n", 1}, {"scheme;9;3;0;10;2;30;0\r\n", 1}, {"scheme;9;3;1234567890;10;2;30;0\n", 1},
		{"Scheme;9;3;0;10;2;30;0\n", 1}, {"schemes;9;3;0;10;2;30;0\n", 1}, {" scheme;9;3;0;10;2;30;0\n", 1}, {";9;3;0;10;2;30;0\n", 1},
		{standA, 1}, {"yield;1;2\n", 1}, {stripLines, 1}, {standA + schemeLine, 1}, {schemeLine + schemeLine, 2}, {headLines + schemeLine, 9}, {allLines + schemeLine, 11},
		// stand
		{schemeLine + "stand\n", 2}, {schemeLine + "stand;A\n", 2}, {schemeLine + "stand;A;1;2;3\n", 2}, {schemeLine + "stand;A;1;2;3;4;5\n", 2}, {schemeLine + "stand;A;1;2;3;x\n", 2},
		{schemeLine + "stand;A;;2;3;4\n", 2}, {schemeLine + "stand;1;2;3;4\n", 2}, {schemeLine + "stands;A;1;2;3;4\n", 2}, {schemeLine + "tree;A;1;2;3;4\n", 2}, {allLines + standA, 11}, {headLines + "stand;C;1;0;0;0\nstand\n", 10},
		// yield
		{schemeLine + "yield;1;2\n", 2}, {schemeLine + "stand;A;1;2;3;4\nyield\n", 3}, {schemeLine + "stand;A;1;2;3;4\nyield;1\n", 3}, {schemeLine + "stand;A;1;2;3;4\nyield;1;2;3\n", 3},
		{schemeLine + "stand;A;1;2;3;4\nyield;1;x\n", 3}, {schemeLine + "stand;A;1;2;3;4\nyield;;2\n", 3}, {schemeLine + "stand;A;1;2;3;4\nyields;1;2\n", 3}, {allLines + "yield;1;2\n", 11}, {headLines + "strip;0;A\nyield;1;2\nx\n", 10},
		// strip
		{headLines + "strip\n", 9}, {headLines + "strip;1\n", 9}, {headLines + "strip;1;B;2\n", 9}, {headLines + "strip;x;B\n", 9}, {headLines + "strip;;B\n", 9}, {headLines + "strip;B;1\n", 9}, {headLines + "strip;1;B;\n", 9},
		{headLines + "strip;01;B\n", 9}, {headLines + "strips;1;B\n", 9}, {headLines + "strip;1234567890;B\n", 9}, {schemeLine + "strip;1;B\nstand;B;1;0;0;0\n", 3},
		// The first of several, and before what is wrong in the scheme or the plan.
		{headLines + "x\ny\n", 9}, {"scheme;0;99;-1;0;0;0;0\nx\n", 2}, {schemeLine + "stand;a;-1;0;0;0\nx\n", 3}, {headLines + "strip;99;B\nstrip;0;C\nstrip;0;A\nx\n", 12}, {headLines + "strip;99;B\nstrip\n", 10},
	} {
		notParsed(t, x.text, x.line, api.ErrText)
	}
}

// P4.4: no line, and what is wrong in a scheme whose lines all have their form.
func TestParseWrongSchemes(t *testing.T) {
	notParsed(t, "", 0, api.ErrText)
	for _, x := range []struct {
		text string
		want api.Errno
	}{
		{"scheme;0;3;0;10;2;30;0\n", api.ErrValue},
		{"scheme;9;13;0;10;2;30;0", api.ErrValue},
		{"scheme;9;999999999;0;10;2;30;0\n", api.ErrValue},
		{"scheme;9;-1;0;10;2;30;0\nstrip;-1;A\n", api.ErrValue},
		{"scheme;9;3;-1;10;2;30;0\n" + standA, api.ErrValue},
		{"scheme;9;3;0;10001;2;30;0\n", api.ErrValue},
		{"scheme;9;3;0;10;1001;30;0\n", api.ErrValue},
		{"scheme;9;3;0;10;2;10001;0\n", api.ErrValue},
		{"scheme;9;3;0;10;2;30;-1\n", api.ErrValue},
		{schemeLine + strings.Repeat("stand;a;-1;0;0;0\n", 5), api.ErrCount},
		{schemeLine + "stand;a;100;0;9;5\nyield;1;1\n", api.ErrCode},
		{schemeLine + "stand;;100;0;9;5\nyield;1;1\n", api.ErrCode},
		{schemeLine + "stand;A23456789;-1;0;9;5\n", api.ErrCode},
		{schemeLine + standA + "stand;A;-1;100;8;6\n", api.ErrRepeat},
		{schemeLine + "stand;A;10001;0;9;5\n", api.ErrValue},
		{schemeLine + "stand;A;1;0;9;5\n", api.ErrCount},
		{schemeLine + "stand;A;1;0;9;5\n" + standB, api.ErrCount},
		{schemeLine + "stand;A;1;0;9;5\n" + strings.Repeat("yield;2;1\n", 9), api.ErrCount},
		{schemeLine + "stand;A;1;0;9;5\nyield;2;1\n", api.ErrValue},
		{schemeLine + "stand;A;1;0;9;5\nyield;0;10001\n", api.ErrValue},
		// The scheme before the strips.
		{"scheme;0;3;0;10;2;30;0\nstrip;9;A\n", api.ErrValue},
		{schemeLine + "stand;A;1;0;9;5\nstrip;9;A\n", api.ErrCount},
	} {
		notParsed(t, x.text, 0, x.want)
	}
	if s, plan, n, e := cycle.Parse(schemeLine + "stand;A;1;0;9;5\n" + strings.Repeat("yield;1;1\n", 8)); len(s.Stands[0].Yields) != 8 || len(plan) != 3 || n != 0 || e != api.OK {
		t.Error(s, plan, n, e)
	}
}

// P4.4: the first strip that is wrong, and its line.
func TestParseWrongStrips(t *testing.T) {
	for _, x := range []struct {
		text string
		line int
		want api.Errno
	}{
		{schemeLine + "strip;0;A\n", 2, api.ErrMissing},
		{headLines + "strip;3;A\n", 9, api.ErrValue},
		{headLines + "strip;-1;A\n", 9, api.ErrValue},
		{headLines + "strip;999999999;A\n", 9, api.ErrValue},
		{headLines + "strip;3;C\n", 9, api.ErrValue},
		{headLines + "strip;2;C\n", 9, api.ErrMissing},
		{headLines + "strip;2;\n", 9, api.ErrMissing},
		{headLines + "strip;2;a\n", 9, api.ErrMissing},
		{headLines + "strip;0;A\nstrip;0;A\n", 10, api.ErrOrder},
		{headLines + "strip;0;B\nstrip;0;A\n", 10, api.ErrOrder},
		{headLines + "strip;1;A\nstrip;0;A\n", 10, api.ErrOrder},
		{headLines + "strip;1;A\nstrip;0;B\n", 10, api.ErrOrder},
		{headLines + "strip;1;A\nstrip;0;C\n", 10, api.ErrMissing},
		{headLines + "strip;1;A\nstrip;-1;A\n", 10, api.ErrValue},
		{headLines + "strip;2;A\nstrip;2;B\nstrip;2;B\n", 11, api.ErrOrder},
		// The first of several.
		{headLines + "strip;1;A\nstrip;0;A\nstrip;3;A\n", 10, api.ErrOrder},
		{headLines + "strip;1;C\nstrip;0;A\nstrip;3;A\n", 9, api.ErrMissing},
		{headLines + "strip;0;A\nstrip;1;C\nstrip;3;A", 10, api.ErrMissing},
	} {
		notParsed(t, x.text, x.line, x.want)
	}
	if s, plan, n, e := cycle.Parse(headLines + "strip;0;B\nstrip;1;A\nstrip;1;B"); !sameScheme(s, exampleScheme()) || !samePlan(plan, planOf(years(1), years(0, 1), nil)) || n != 0 || e != api.OK {
		t.Error(s, plan, n, e)
	}
}

// P4.4: a text has at most MaxText bytes, whatever its lines are.
func TestParseLongTexts(t *testing.T) {
	long := strings.Repeat("\n", api.MaxText)
	notParsed(t, long, 1, api.ErrText)
	notParsed(t, long+"\n", 0, api.ErrCount)
	full := headLines + strings.Repeat("strip;0;A\n", (api.MaxText-len(headLines)-1)/10)
	notParsed(t, full, 10, api.ErrOrder)
	full += strings.Repeat("x", api.MaxText-len(full))
	notParsed(t, full, 1+strings.Count(full, "\n"), api.ErrText)
	notParsed(t, full+"x", 0, api.ErrCount)
}

// P0.1: any text is parsed without a panic, and what is parsed is printed so.
func TestParseAnyText(t *testing.T) {
	r := rand.New(rand.NewSource(14))
	pieces := []string{"scheme", "stand", "yield", "strip", ";", ";", "\n", "\n", "0", "1", "2", "-", "A", "B", "", " ", "\r", "\xff", "stand;C;5;0;9;1\nyield;1;2\n", "yield;3;4\n", "strip;0;A\n", "strip;1;B\n", "strip;2;B\n"}
	parsed := 0
	for range 20000 {
		var b strings.Builder
		if r.Intn(4) > 0 {
			b.WriteString(headLines)
		}
		for range r.Intn(9) {
			b.WriteString(pieces[r.Intn(len(pieces))])
		}
		s, plan, n, e := cycle.Parse(b.String())
		switch {
		case e != api.OK && (!sameScheme(s, api.Scheme{}) || plan != nil || n < 0):
			t.Fatalf("%q %v %v %d %d", b.String(), s, plan, n, e)
		case e == api.OK:
			parsed++
			if text, e := cycle.Print(s, plan); n != 0 || e != api.OK || text != b.String() && text != b.String()+"\n" {
				t.Fatalf("%q %q %d %d", b.String(), text, n, e)
			}
		}
	}
	if parsed < 100 {
		t.Error("too few texts were parsed", parsed)
	}
}
