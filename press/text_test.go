package press_test

import (
	"math/rand"
	"slices"
	"strings"
	"testing"

	"sobreiro/api"
	"sobreiro/press"
)

const (
	headLine  = "press;1600;600;100;900\n"
	stepLines = "step;0;900;950;2000;3000\nstep;200;930;980;1500;1900\n"
	corkLine  = "cork;2400;2450;4400;4500;180;195\n"
	allLines  = headLine + stepLines + corkLine // 4 lines
)

// P8.5: what is printed, and that it is parsed as it was.
func TestPrint(t *testing.T) {
	q := exampleQuestion()
	for i, x := range []struct {
		p    api.Press
		l    []api.Cork
		want string
	}{
		{q.p, []api.Cork{q.c}, allLines},
		{q.p, nil, headLine + stepLines},
		{q.p, slices.Repeat([]api.Cork{q.c}, 40), headLine + stepLines + strings.Repeat(corkLine, 40)},
		{api.Press{Jaw: 1, Crush: 1, Steps: make([]api.Step, 1)}, []api.Cork{{Width: known(1), Length: known(1)}}, "press;1;1;0;0\nstep;0;0;0;0;0\ncork;1;1;1;1;0;0\n"},
		{
			api.Press{Jaw: 4000, Crush: 1000, Grip: 3999, Limit: 100000, Steps: []api.Step{{Springs: bounds(1, 1000), Breathes: bounds(2, 100000)}, {From: 1000, Springs: known(7), Breathes: known(8)}}},
			[]api.Cork{q.c, {Width: bounds(3800, 4000), Length: bounds(1, 8000), Density: bounds(0, 1000)}},
			"press;4000;1000;3999;100000\nstep;0;1;1000;2;100000\nstep;1000;7;7;8;8\n" + corkLine + "cork;3800;4000;1;8000;0;1000\n",
		},
	} {
		if s, e := press.Print(x.p, x.l); s != x.want || e != api.OK {
			t.Error(i, s, e)
		}
		for _, text := range []string{x.want, strings.TrimSuffix(x.want, "\n")} {
			if p, l, n, e := press.Parse(text); !samePress(p, x.p) || !slices.Equal(l, x.l) || n != 0 || e != api.OK {
				t.Error(i, p, l, n, e)
			}
		}
	}
}

// P8.5: what is printed is parsed as it was, and printed as it was.
func TestPrintedIsParsed(t *testing.T) {
	r := rand.New(rand.NewSource(17))
	for range often {
		p := someGreat(r).p
		var l []api.Cork
		for range r.Intn(api.MaxCorks + 1) {
			l = append(l, someGreat(r).c)
		}
		text, e := press.Print(p, l)
		if e != api.OK {
			t.Fatal(p, l, e)
		}
		gotP, gotL, n, e := press.Parse(text)
		again, _ := press.Print(gotP, gotL)
		if !samePress(gotP, p) || !slices.Equal(gotL, l) || n != 0 || e != api.OK || again != text {
			t.Fatal(text, gotP, gotL, n, e)
		}
	}
}

// notParsed checks that a text has an error, with the number of a line.
func notParsed(t *testing.T, text string, line int, want api.Errno) {
	t.Helper()
	p, l, n, e := press.Parse(text)
	if !samePress(p, api.Press{}) || p.Steps != nil || l != nil || n != line || e != want {
		t.Errorf("%.80q: %v, %v, %d, %d", text, p, l, n, e)
	}
}

// P8.5: the first line that is wrong.
func TestParseWrongLines(t *testing.T) {
	for _, x := range []struct {
		text string
		line int
	}{
		{"\n", 1}, {"x", 1}, {";", 1}, {"\n" + allLines, 1}, {allLines + "\n", 5}, {headLine + "\n", 2}, {headLine + "\n" + stepLines, 2}, {headLine + stepLines + "\n" + corkLine, 4}, {headLine + ";0;900;950;2000;3000\n", 2},
		// press
		{"press", 1}, {"press\n", 1}, {"press;1600;600;100\n", 1}, {"press;1600;600;100;900;1\n", 1}, {"press;1600;600;100;\n", 1}, {"press;;600;100;900\n", 1}, {"press;1600;x;100;900\n", 1}, {"press;1600;600;-0;900\n", 1}, {"press;01600;600;100;900\n", 1}, {"press;+1600;600;100;900\n", 1}, {"press;1600;600;100;900\r\n", 1}, {"press;1600;600;100;1234567890\n", 1}, {"press;1600;600; 100;900\n", 1},
		{"Press;1600;600;100;900\n", 1}, {"presses;1600;600;100;900\n", 1}, {" press;1600;600;100;900\n", 1}, {";1600;600;100;900\n", 1}, {"press 1600 600 100 900\n", 1},
		{stepLines, 1}, {corkLine, 1}, {stepLines + headLine, 1}, {headLine + headLine, 2}, {headLine + headLine + stepLines, 2}, {headLine + stepLines + headLine, 4}, {allLines + headLine, 5}, {"press;1600;600;100\n" + stepLines, 1},
		// step
		{headLine + "step\n", 2}, {headLine + "step;0;900;950;2000\n", 2}, {headLine + "step;0;900;950;2000;3000;1\n", 2}, {headLine + "step;0;900;950;2000;\n", 2}, {headLine + "step;;900;950;2000;3000\n", 2}, {headLine + "step;0;900;x;2000;3000\n", 2}, {headLine + "step;00;900;950;2000;3000\n", 2}, {headLine + "step;0;900;950;2000;03000\n", 2}, {headLine + "step;1234567890;900;950;2000;3000\n", 2}, {headLine + "steps;0;900;950;2000;3000\n", 2}, {headLine + "STEP;0;900;950;2000;3000\n", 2}, {headLine + "step;0;900;950;2000;3000 \n", 2},
		{headLine + "step;2400;2450;4400;4500;180;195\n", 2}, {headLine + "press;0;900;950;2000;3000\n", 2}, {headLine + "cork;0;900;950;2000;3000\n", 2},
		// cork
		{headLine + stepLines + "cork\n", 4}, {headLine + stepLines + "cork;2400;2450;4400;4500;180\n", 4}, {headLine + stepLines + "cork;2400;2450;4400;4500;180;195;1\n", 4}, {headLine + stepLines + "cork;2400;2450;4400;4500;180;\n", 4}, {headLine + stepLines + "cork;;2450;4400;4500;180;195\n", 4}, {headLine + stepLines + "cork;2400;2450;4400;4500;x;195\n", 4}, {headLine + stepLines + "corks;2400;2450;4400;4500;180;195\n", 4}, {headLine + stepLines + "Cork;2400;2450;4400;4500;180;195\n", 4}, {headLine + stepLines + "cork;2400;2450;4400;4500;180;0195\n", 4}, {headLine + stepLines + "cork;2400;2450;4400;4500;180;195\r\n", 4},
		// The order
		{headLine + corkLine + stepLines, 3}, {allLines + "step;300;930;980;1500;1900\n", 5}, {headLine + corkLine + corkLine + stepLines, 4},
		// The first of several, and before what is wrong in the press or a cork.
		{allLines + "x\ny\n", 5}, {"press;0;600;100;900\nx\n", 2}, {headLine + "step;1;900;950;2000;3000\nstep\nx\n", 3}, {headLine + "x", 2}, {headLine + strings.Repeat("step;0;900;950;2000;3000\n", 7) + "x", 9}, {headLine + strings.Repeat(corkLine, 41) + "x", 43}, {headLine + "cork;0;0;0;0;0;0\nx", 3},
	} {
		notParsed(t, x.text, x.line, api.ErrText)
	}
}

// P8.5: no line, and what is wrong in a press and corks whose lines all have their form.
func TestParseWrongPresses(t *testing.T) {
	notParsed(t, "", 0, api.ErrText)
	for _, x := range []struct {
		text string
		want api.Errno
	}{
		{"press;0;600;100;900\n", api.ErrValue},
		{"press;0;600;100;900\n" + stepLines, api.ErrValue},
		{"press;-1600;600;100;900\n" + stepLines, api.ErrValue},
		{"press;1600;1001;100;900\n" + stepLines, api.ErrValue},
		{"press;1600;600;4001;900\n" + stepLines, api.ErrValue},
		{"press;1600;600;100;999999999\n" + stepLines, api.ErrValue},
		{headLine, api.ErrCount},
		{strings.TrimSuffix(headLine, "\n"), api.ErrCount},
		{headLine + corkLine, api.ErrCount},
		{headLine + strings.Repeat("step;0;0;0;0;0\n", 7), api.ErrCount},
		{headLine + strings.Repeat("step;0;0;0;0;0\n", 6), api.ErrOrder},
		{headLine + "step;1;900;950;2000;3000\n", api.ErrOrder},
		{headLine + "step;-1;900;950;2000;3000\n", api.ErrValue},
		{headLine + "step;0;950;900;2000;3000\n", api.ErrValue},
		{headLine + "step;0;900;950;3000;2000\n", api.ErrValue},
		{headLine + stepLines + "step;200;930;980;1500;1900\n", api.ErrOrder},
		{headLine + stepLines + strings.Repeat(corkLine, 41), api.ErrCount},
		{headLine + stepLines + strings.Repeat("cork;0;0;0;0;0;0\n", 41), api.ErrCount},
		{headLine + stepLines + "cork;0;0;0;0;0;0\n", api.ErrValue},
		{headLine + stepLines + corkLine + "cork;2400;2601;4400;4500;180;195\n", api.ErrValue},
		{headLine + stepLines + "cork;2450;2400;4400;4500;180;195\n", api.ErrValue},
		{headLine + stepLines + "cork;2400;2450;4500;4400;180;195\n", api.ErrValue},
		{headLine + stepLines + "cork;2400;2450;4400;4500;195;180\n", api.ErrValue},
		{headLine + "step;1;0;0;0;0\n" + strings.Repeat(corkLine, 41), api.ErrOrder},
	} {
		notParsed(t, x.text, 0, x.want)
	}
}

// P8.5: a text has at most MaxText bytes, whatever its lines are.
func TestParseLongTexts(t *testing.T) {
	long := strings.Repeat("\n", api.MaxText)
	notParsed(t, long, 1, api.ErrText)
	notParsed(t, long+"\n", 0, api.ErrCount)
	full := headLine + stepLines
	full += strings.Repeat(corkLine, (api.MaxText-len(full)-1)/len(corkLine))
	notParsed(t, full, 0, api.ErrCount)
	full += strings.Repeat("x", api.MaxText-len(full))
	notParsed(t, full, 1+strings.Count(full, "\n"), api.ErrText)
	notParsed(t, full+"x", 0, api.ErrCount)
}

// R4: what is parsed has nothing in common with what else is.
func TestParsedIsNew(t *testing.T) {
	p, l, _, _ := press.Parse(allLines)
	otherP, otherL, _, _ := press.Parse(allLines)
	clear(p.Steps)
	clear(l)
	q := exampleQuestion()
	if !samePress(otherP, q.p) || !slices.Equal(otherL, []api.Cork{q.c}) {
		t.Error(otherP, otherL)
	}
}

// P0.1: any text is parsed without a panic, and what is parsed is printed so.
func TestParseAnyText(t *testing.T) {
	r := rand.New(rand.NewSource(18))
	pieces := []string{"press", "step", "cork", ";", ";", "\n", "\n", "0", "1", "12", "-", "", " ", "\r", "\xff", "step;0;0;0;0;0\n", "step;300;0;0;0;0\n", corkLine, corkLine, "cork;1;1;1;1;0;0"}
	parsed := 0
	for range 20000 {
		var b strings.Builder
		if r.Intn(4) > 0 {
			b.WriteString([]string{headLine, headLine + stepLines, allLines}[r.Intn(3)])
		}
		for range r.Intn(9) {
			b.WriteString(pieces[r.Intn(len(pieces))])
		}
		p, l, n, e := press.Parse(b.String())
		switch {
		case e != api.OK && (!samePress(p, api.Press{}) || l != nil || n < 0):
			t.Fatalf("%q %v %v %d %d", b.String(), p, l, n, e)
		case e == api.OK:
			parsed++
			if text, e := press.Print(p, l); n != 0 || e != api.OK || text != b.String() && text != b.String()+"\n" {
				t.Fatalf("%q %q %d %d", b.String(), text, n, e)
			}
		}
	}
	if parsed < 100 {
		t.Error("too few texts were parsed", parsed)
	}
}
