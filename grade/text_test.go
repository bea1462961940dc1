package grade_test

import (
	"math/rand"
	"strings"
	"testing"

	"sobreiro/api"
	"sobreiro/grade"
)

const (
	panelLine   = "panel;3;100;200\n"
	graderLines = "grader;ANA;-10;10\ngrader;CAM;0;0\n"
	classLines  = "class;ANA;0;1\nclass;ANA;1;2\nclass;CAM;1;1\n"
	pairLine    = "pair;ANA;2;1;30\n"
	headLines   = panelLine + graderLines           // 3 lines
	allLines    = headLines + classLines + pairLine // 7 lines
)

// P6.5: what is printed, and that it is parsed as it was.
func TestPrint(t *testing.T) {
	for i, x := range []struct {
		p    api.Panel
		want string
	}{
		{examplePanel(), allLines},
		{conflictPanel(), allLines + "pair;CAM;0;1;20\n"},
		{api.Panel{}, "panel;0\n"},
		{api.Panel{Items: 10}, "panel;10\n"},
		{api.Panel{Items: 1, Cuts: []int{1, 2, 3, 4, 200000}}, "panel;1;1;2;3;4;200000\n"},
		{api.Panel{Graders: []api.Grader{{Code: "A2345678", Bias: bounds(-20000, 20000)}, {Code: "Z-"}}}, "panel;0\ngrader;A2345678;-20000;20000\ngrader;Z-;0;0\n"},
		// Opinions and pairs stand in their order, whoever judges.
		{api.Panel{Items: 2, Graders: []api.Grader{{Code: "B"}, {Code: "A"}}, Opinions: []api.Opinion{{Grader: 1, Item: 1}, {Grader: 0, Item: 1}, {Grader: 1, Item: 0}}, Pairs: []api.Pair{{Grader: 1, Better: 1, By: 200000}, {Grader: 0, Worse: 1}}}, "panel;2\ngrader;B;0;0\ngrader;A;0;0\nclass;A;1;0\nclass;B;1;0\nclass;A;0;0\npair;A;1;0;200000\npair;B;0;1;0\n"},
		{changed(func(p *api.Panel) { p.Opinions = nil }), headLines + pairLine},
		{changed(func(p *api.Panel) { p.Pairs = nil }), headLines + classLines},
	} {
		if s, e := grade.Print(x.p); s != x.want || e != api.OK {
			t.Error(i, s, e)
		}
		for _, text := range []string{x.want, strings.TrimSuffix(x.want, "\n")} {
			if p, n, e := grade.Parse(text); !samePanel(p, x.p) || n != 0 || e != api.OK {
				t.Error(i, p, n, e)
			}
		}
	}
}

// P6.5: what is printed is parsed as it was, and printed as it was.
func TestPrintedIsParsed(t *testing.T) {
	r := rand.New(rand.NewSource(15))
	for i := range 3 * often {
		p := somePanel(r, api.MaxJudged)
		if i == 0 {
			p = fullPanel()
		}
		text, e := grade.Print(p)
		if e != api.OK {
			t.Fatal(p, e)
		}
		q, n, e := grade.Parse(text)
		again, _ := grade.Print(q)
		if !samePanel(p, q) || n != 0 || e != api.OK || again != text {
			t.Fatal(text, q, n, e)
		}
	}
}

// notParsed checks that a text has an error, with the number of a line.
func notParsed(t *testing.T, text string, line int, want api.Errno) {
	t.Helper()
	p, n, e := grade.Parse(text)
	if !samePanel(p, api.Panel{}) || n != line || e != want {
		t.Errorf("%.80q: %v, %d, %d", text, p, n, e)
	}
}

// P6.5: the first line that does not have its form, or its place.
func TestParseWrongLines(t *testing.T) {
	for _, x := range []struct {
		text string
		line int
	}{
		{"\n", 1}, {"x", 1}, {";", 1}, {"\n" + allLines, 1}, {allLines + "\n", 8}, {panelLine + "\n" + graderLines, 2}, {panelLine + ";\n", 2}, {panelLine + ";;1;2\n", 2},
		// panel
		{"panel", 1}, {"panel\n", 1}, {"panel;\n", 1}, {"panel;x\n", 1}, {"panel;3;\n", 1}, {"panel;3;100;\n", 1}, {"panel;3;;200\n", 1}, {"panel;-0\n", 1}, {"panel;03\n", 1}, {"panel;+3\n", 1}, {"panel;3;1234567890\n", 1}, {"panel;3;100\r\n", 1}, {"panel;ANA;0;1\n", 1},
		{"Panel;3\n", 1}, {"panels;3\n", 1}, {" panel;3\n", 1}, {";3\n", 1}, {graderLines, 1}, {classLines, 1}, {pairLine, 1}, {graderLines + panelLine, 1},
		{panelLine + panelLine, 2}, {headLines + panelLine, 4}, {allLines + panelLine, 8}, {allLines + "panel\n", 8},
		// grader
		{panelLine + "grader\n", 2}, {panelLine + "grader;A\n", 2}, {panelLine + "grader;A;1\n", 2}, {panelLine + "grader;A;1;2;3\n", 2}, {panelLine + "grader;A;1;2;\n", 2}, {panelLine + "grader;A;1;x\n", 2}, {panelLine + "grader;A;;2\n", 2}, {panelLine + "grader;1;2\n", 2}, {panelLine + "grader;A;1;02\n", 2}, {panelLine + "grader;A;1;2 \n", 2}, {panelLine + "graders;A;1;2\n", 2}, {panelLine + "grade;A;1;2\n", 2},
		{headLines + "class;ANA;0;1\ngrader;B;0;0\n", 5}, {headLines + pairLine + "grader;B;0;0\n", 5}, {allLines + "grader;B;0;0\n", 8},
		// class
		{headLines + "class\n", 4}, {headLines + "class;ANA\n", 4}, {headLines + "class;ANA;0\n", 4}, {headLines + "class;ANA;0;1;2\n", 4}, {headLines + "class;ANA;0;\n", 4}, {headLines + "class;ANA;x;1\n", 4}, {headLines + "class;0;1\n", 4}, {headLines + "class;ANA;0;-\n", 4}, {headLines + "classes;ANA;0;1\n", 4},
		{headLines + pairLine + "class;ANA;0;1\n", 5}, {allLines + "class;CAM;0;1\n", 8},
		// pair
		{headLines + "pair\n", 4}, {headLines + "pair;ANA\n", 4}, {headLines + "pair;ANA;2;1\n", 4}, {headLines + "pair;ANA;2;1;30;4\n", 4}, {headLines + "pair;ANA;2;1;\n", 4}, {headLines + "pair;ANA;2;1;x\n", 4}, {headLines + "pair;2;1;30\n", 4}, {headLines + "pair;ANA;2;1;1e2\n", 4}, {headLines + "pairs;ANA;2;1;30\n", 4},
		// The form before the code, and the first line of several.
		{headLines + "class;B;x;1\n", 4}, {headLines + "class;B;1\n", 4}, {headLines + "pair;B;2;1\n", 4}, {headLines + pairLine + "class;B;0;1\n", 5}, {headLines + "x\nclass;B;0;1\n", 4}, {panelLine + "x\ny\n", 2},
		// Before what is wrong in the panel.
		{"panel;99;0\nx\n", 2}, {panelLine + "grader;a;0;0\nclass;a;9;9\nx\n", 4}, {panelLine + "grader;A;0;0\ngrader;A;0;0\ngrader;A;9;0\nx", 5}, {headLines + strings.Repeat("class;ANA;0;1\n", 13) + "x", 17},
	} {
		notParsed(t, x.text, x.line, api.ErrText)
	}
}

// P6.5: codes of opinions and pairs that no grader before them has.
func TestParseMissingGraders(t *testing.T) {
	for _, x := range []struct {
		text string
		line int
	}{
		{panelLine + "class;ANA;0;1\n", 2}, {panelLine + "pair;ANA;2;1;30\n", 2}, {headLines + "class;B;0;1\n", 4}, {headLines + "pair;B;2;1;30\n", 4}, {allLines + "pair;B;2;1;30", 8},
		{headLines + "class;;0;1\n", 4}, {headLines + "class;a;0;1\n", 4}, {headLines + "class;ana;0;1\n", 4}, {headLines + "class;AN;0;1\n", 4}, {headLines + "class;ANAA;0;1\n", 4}, {headLines + "pair; ANA;2;1;30\n", 4}, {headLines + "pair;0;2;1;30\n", 4},
		// The first line of several, and before what is wrong in the panel.
		{panelLine + "class;ANA;0;1\n" + graderLines, 2}, {headLines + "class;B;0;1\nx\n", 4}, {headLines + "class;ANA;9;9\npair;C;9;9;-9\nclass;ANA;0;0\n", 5}, {"panel;99\nclass;B;0;1\n", 2}, {panelLine + "grader;a;0;0\nclass;A;0;1\n", 3},
	} {
		notParsed(t, x.text, x.line, api.ErrMissing)
	}
}

// P6.5: no line, and what is wrong in a panel whose lines all are right.
func TestParseWrongPanels(t *testing.T) {
	notParsed(t, "", 0, api.ErrText)
	for _, x := range []struct {
		text string
		want api.Errno
	}{
		{"panel;-1\n", api.ErrCount},
		{"panel;11", api.ErrCount},
		{"panel;999999999;0\n" + graderLines, api.ErrCount},
		{"panel;3;1;2;3;4;5;6\n", api.ErrCount},
		{"panel;3;0\n", api.ErrValue},
		{"panel;3;200001\n", api.ErrValue},
		{"panel;3;-5;7\n", api.ErrValue},
		{"panel;3;7;7\n", api.ErrOrder},
		{panelLine + strings.Repeat("grader;A;1;0\n", 6), api.ErrCount},
		{panelLine + "grader;;0;0\n", api.ErrCode},
		{panelLine + "grader;a;0;0\nclass;a;0;1\n", api.ErrCode},
		{panelLine + "grader;;1;0\nclass;;0;1\n", api.ErrCode},
		{panelLine + "grader;1;0;0\n", api.ErrCode},
		{panelLine + "grader; A;0;0\n", api.ErrCode},
		{panelLine + "grader;\xff;0;0\n", api.ErrCode},
		{panelLine + "grader;A23456789;0;0\n", api.ErrCode},
		{headLines + "grader;ANA;1;0\nclass;ANA;0;1\n", api.ErrRepeat},
		{panelLine + "grader;A;1;0\n", api.ErrValue},
		{panelLine + "grader;A;-20001;0\n", api.ErrValue},
		{panelLine + "grader;A;0;20001\n", api.ErrValue},
		{headLines + strings.Repeat("class;ANA;0;1\n", 13), api.ErrCount},
		{headLines + classLines + strings.Repeat(pairLine, 10), api.ErrCount},
		{headLines + "class;ANA;3;1\n", api.ErrMissing},
		{headLines + "class;ANA;-1;1\n", api.ErrMissing},
		{headLines + "class;ANA;0;3\n", api.ErrValue},
		{headLines + "class;ANA;0;-1\n", api.ErrValue},
		{headLines + classLines + "class;CAM;1;2\n", api.ErrRepeat},
		{headLines + "pair;ANA;3;1;30\n", api.ErrMissing},
		{headLines + "pair;ANA;2;-1;30\n", api.ErrMissing},
		{headLines + "pair;ANA;1;1;30\n", api.ErrRound},
		{headLines + "pair;ANA;2;1;-1\n", api.ErrValue},
		{headLines + "pair;ANA;2;1;200001\n", api.ErrValue},
	} {
		notParsed(t, x.text, 0, x.want)
	}
	if p, n, e := grade.Parse(headLines + classLines + strings.Repeat(pairLine, 9)); len(p.Pairs) != 9 || n != 0 || e != api.OK {
		t.Error(p, n, e)
	}
}

// P6.5: a text has at most MaxText bytes, whatever its lines are.
func TestParseLongTexts(t *testing.T) {
	long := strings.Repeat("\n", api.MaxText)
	notParsed(t, long, 1, api.ErrText)
	notParsed(t, long+"\n", 0, api.ErrCount)
	full := headLines + strings.Repeat("pair;ANA;2;1;30\n", (api.MaxText-len(headLines)-1)/16)
	notParsed(t, full, 0, api.ErrCount)
	full += strings.Repeat("x", api.MaxText-len(full))
	notParsed(t, full, 1+strings.Count(full, "\n"), api.ErrText)
	notParsed(t, full+"x", 0, api.ErrCount)
	wide := "panel;1" + strings.Repeat(";1", (api.MaxText-8)/2)
	notParsed(t, wide, 0, api.ErrCount)
}

// P0.1: any text is parsed without a panic, and what is parsed is printed so.
func TestParseAnyText(t *testing.T) {
	r := rand.New(rand.NewSource(16))
	pieces := []string{"panel", "grader", "class", "pair", ";", ";", "\n", "\n", "0", "1", "200", "-", "A", "ANA", "", " ", "\r", "\xff", "grader;B;0;0\n", "class;CAM;0;1\n", "class;ANA;2;0\n", pairLine, "pair;CAM;0;1;20\n"}
	parsed := 0
	for range 20000 {
		var b strings.Builder
		if r.Intn(4) > 0 {
			b.WriteString([]string{panelLine, headLines, allLines}[r.Intn(3)])
		}
		for range r.Intn(9) {
			b.WriteString(pieces[r.Intn(len(pieces))])
		}
		p, n, e := grade.Parse(b.String())
		switch {
		case e != api.OK && (!samePanel(p, api.Panel{}) || n < 0):
			t.Fatalf("%q %v %d %d", b.String(), p, n, e)
		case e == api.OK:
			parsed++
			if text, e := grade.Print(p); n != 0 || e != api.OK || text != b.String() && text != b.String()+"\n" {
				t.Fatalf("%q %q %d %d", b.String(), text, n, e)
			}
		}
	}
	if parsed < 100 {
		t.Error("too few texts were parsed", parsed)
	}
}
