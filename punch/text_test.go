package punch_test

import (
	"math/rand"
	"slices"
	"strings"
	"testing"

	"sobreiro/api"
	"sobreiro/punch"
)

const (
	headLine  = "lath;12;4;1;10;6;1\n"
	flawLines = "flaw;3;4;5;6;2;1\nflaw;9;9;10;12;1;0\n"
	allLines  = headLine + flawLines // 3 lines
)

// P7.5: what is printed, and that it is parsed as it was.
func TestPrint(t *testing.T) {
	for i, x := range []struct {
		l    api.Lath
		want string
	}{
		{exampleLath(), allLines},
		{lathOf(1, 60, 10, []int{0}), "lath;1;60;10;0\n"},
		{lathOf(300, 1, 0, []int{10000, 10000, 9, 9, 1, 0}), "lath;300;1;0;10000;10000;9;9;1;0\n"},
		{lathOf(300, 60, 10, []int{5, 4}, flaw(bounds(0, 298), bounds(299, 300), 1, true)), "lath;300;60;10;5;4\nflaw;0;298;299;300;1;1\n"},
		{lathOf(1, 1, 0, []int{5, 4}, flaw(known(0), known(1), 1, false)), "lath;1;1;0;5;4\nflaw;0;0;1;1;1;0\n"},
	} {
		if s, e := punch.Print(x.l); s != x.want || e != api.OK {
			t.Error(i, s, e)
		}
		for _, text := range []string{x.want, strings.TrimSuffix(x.want, "\n")} {
			if l, n, e := punch.Parse(text); !sameLath(l, x.l) || n != 0 || e != api.OK {
				t.Error(i, l, n, e)
			}
		}
	}
}

// P7.5: what is printed is parsed as it was, and printed as it was.
func TestPrintedIsParsed(t *testing.T) {
	r := rand.New(rand.NewSource(14))
	for range often {
		l := someLath(r, full())
		text, e := punch.Print(l)
		if e != api.OK {
			t.Fatal(l, e)
		}
		p, n, e := punch.Parse(text)
		again, _ := punch.Print(p)
		if !sameLath(p, l) || n != 0 || e != api.OK || again != text {
			t.Fatal(text, p, n, e)
		}
	}
}

// notParsed checks that a text has an error, with the number of a line.
func notParsed(t *testing.T, text string, line int, want api.Errno) {
	t.Helper()
	l, n, e := punch.Parse(text)
	if !sameLath(l, api.Lath{}) || l.Prices != nil || l.Flaws != nil || n != line || e != want {
		t.Errorf("%.80q: %v, %d, %d", text, l, n, e)
	}
}

// P7.5: the first line that is wrong.
func TestParseWrongLines(t *testing.T) {
	for _, x := range []struct {
		text string
		line int
	}{
		{"\n", 1}, {"x", 1}, {";", 1}, {"\n" + allLines, 1}, {allLines + "\n", 4}, {headLine + "\n", 2}, {headLine + "\n" + flawLines, 2}, {headLine + ";3;4;5;6;2;1\n", 2},
		// lath
		{"lath", 1}, {"lath\n", 1}, {"lath;12\n", 1}, {"lath;12;4\n", 1}, {"lath;12;4;1\n", 1}, {"lath;12;4;1;\n", 1}, {"lath;12;4;1;10;\n", 1}, {"lath;;4;1;10\n", 1}, {"lath;12;x;1;10\n", 1}, {"lath;12;4;-0;10\n", 1}, {"lath;012;4;1;10\n", 1}, {"lath;+12;4;1;10\n", 1}, {"lath;12;4;1;10\r\n", 1}, {"lath;12;4;1;1234567890\n", 1}, {"lath;12;4;1;10;6;x\n", 1}, {"lath;12;4;1;10; 6\n", 1},
		{"Lath;12;4;1;10\n", 1}, {"laths;12;4;1;10\n", 1}, {" lath;12;4;1;10\n", 1}, {";12;4;1;10\n", 1}, {"lath 12 4 1 10\n", 1},
		{flawLines, 1}, {"flaw;3;4;5;6;2;1\n" + headLine, 1}, {headLine + headLine, 2}, {allLines + headLine, 4}, {headLine + headLine + flawLines, 2}, {"lath;12;4;1\n" + flawLines, 1},
		// flaw
		{headLine + "flaw\n", 2}, {headLine + "flaw;3;4;5;6;2\n", 2}, {headLine + "flaw;3;4;5;6;2;1;0\n", 2}, {headLine + "flaw;3;4;5;6;2;\n", 2}, {headLine + "flaw;;4;5;6;2;1\n", 2}, {headLine + "flaw;3;4;5;x;2;1\n", 2}, {headLine + "flaw;3;4;5;6;02;1\n", 2}, {headLine + "flaw;3;4;5;6;2;01\n", 2}, {headLine + "flaw;1234567890;4;5;6;2;1\n", 2},
		{headLine + "flaw;3;4;5;6;2;2\n", 2}, {headLine + "flaw;3;4;5;6;2;-1\n", 2}, {headLine + "flaw;3;4;5;6;2;10\n", 2}, {headLine + "flaw;3;4;5;6;2;999999999\n", 2}, {headLine + "flaw;3;4;5;6;2;true\n", 2},
		{headLine + "flaws;3;4;5;6;2;1\n", 2}, {headLine + "FLAW;3;4;5;6;2;1\n", 2}, {headLine + "flaw;3;4;5;6;2;1 \n", 2}, {headLine + "lath;3;4;5;6;2;1\n", 2},
		// The first of several, and before what is wrong in the lath.
		{allLines + "x\ny\n", 4}, {"lath;0;4;1;10\nx\n", 2}, {"lath;12;4;1;10;11\nflaw;3;4;5;6;2;2\nx\n", 2}, {headLine + "flaw;9;4;5;6;9;1\nflaw\nx\n", 3}, {headLine + strings.Repeat("flaw;3;4;5;6;2;1\n", 11) + "x", 13},
	} {
		notParsed(t, x.text, x.line, api.ErrText)
	}
}

// P7.5: no line, and what is wrong in a lath whose lines all have their form.
func TestParseWrongLaths(t *testing.T) {
	notParsed(t, "", 0, api.ErrText)
	for _, x := range []struct {
		text string
		want api.Errno
	}{
		{"lath;0;4;1;10\n", api.ErrValue},
		{"lath;301;4;1;10", api.ErrValue},
		{"lath;-12;4;1;10\n", api.ErrValue},
		{"lath;12;0;1;10\n", api.ErrValue},
		{"lath;12;61;1;10\n", api.ErrValue},
		{"lath;12;4;-1;10\n", api.ErrValue},
		{"lath;12;4;11;10\n", api.ErrValue},
		{"lath;999999999;4;1;1;2;3;4;5;6;7\n", api.ErrValue},
		{"lath;12;4;1;7;6;5;4;3;2;1\n", api.ErrCount},
		{"lath;12;4;1;-1\n", api.ErrValue},
		{"lath;12;4;1;10001\n", api.ErrValue},
		{"lath;12;4;1;5;6\n" + strings.Repeat("flaw;3;4;5;6;2;1\n", 11), api.ErrOrder},
		{headLine + strings.Repeat("flaw;3;4;5;6;0;1\n", 11), api.ErrCount},
		{headLine + "flaw;3;4;5;6;0;1\n", api.ErrValue},
		{headLine + "flaw;3;4;5;6;3;1\n", api.ErrValue},
		{headLine + "flaw;-3;4;5;6;2;1\n", api.ErrValue},
		{headLine + "flaw;3;4;5;13;2;1\n", api.ErrValue},
		{headLine + "flaw;4;3;5;6;2;1\n", api.ErrValue},
		{headLine + "flaw;3;5;5;6;2;1\n", api.ErrOrder},
		{headLine + "flaw;3;5;5;6;2;1\nflaw;3;4;5;6;0;1\n", api.ErrOrder},
		{"lath;12;4;1;10\n" + flawLines, api.ErrValue},
	} {
		notParsed(t, x.text, 0, x.want)
	}
	if l, n, e := punch.Parse(headLine + strings.Repeat("flaw;3;4;5;6;2;1\n", 10)); len(l.Flaws) != 10 || n != 0 || e != api.OK {
		t.Error(l, n, e)
	}
}

// P7.5: a text has at most MaxText bytes, whatever its lines are.
func TestParseLongTexts(t *testing.T) {
	long := strings.Repeat("\n", api.MaxText)
	notParsed(t, long, 1, api.ErrText)
	notParsed(t, long+"\n", 0, api.ErrCount)
	full := headLine + strings.Repeat("flaw;3;4;5;6;2;1\n", (api.MaxText-len(headLine)-1)/17)
	notParsed(t, full, 0, api.ErrCount)
	full += strings.Repeat("x", api.MaxText-len(full))
	notParsed(t, full, 1+strings.Count(full, "\n"), api.ErrText)
	notParsed(t, full+"x", 0, api.ErrCount)
	wide := "lath;12;4;1" + strings.Repeat(";1", (api.MaxText-11)/2)
	notParsed(t, wide, 0, api.ErrCount)
}

// R4: laths that are parsed have nothing in common.
func TestParsedIsNew(t *testing.T) {
	a, _, _ := punch.Parse(allLines)
	b, _, _ := punch.Parse(allLines)
	_ = append(a.Prices, 7)
	clear(a.Prices)
	clear(a.Flaws)
	if !sameLath(b, exampleLath()) || !slices.Equal(a.Prices, make([]int, 3)) {
		t.Error(a, b)
	}
}

// P0.1: any text is parsed without a panic, and what is parsed is printed so.
func TestParseAnyText(t *testing.T) {
	r := rand.New(rand.NewSource(15))
	pieces := []string{"lath", "flaw", ";", ";", "\n", "\n", "0", "1", "12", "-", "", " ", "\r", "\xff", "flaw;0;0;1;1;1;0\n", "flaw;3;4;5;6;2;1\n", "flaw;3;5;5;6;2;1\n", "flaw;9;9;10;12;1;0"}
	parsed := 0
	for range 20000 {
		var b strings.Builder
		if r.Intn(4) > 0 {
			b.WriteString([]string{headLine, allLines, "lath;12;4;1;10;6;1"}[r.Intn(3)])
		}
		for range r.Intn(9) {
			b.WriteString(pieces[r.Intn(len(pieces))])
		}
		l, n, e := punch.Parse(b.String())
		switch {
		case e != api.OK && (!sameLath(l, api.Lath{}) || n < 0):
			t.Fatalf("%q %v %d %d", b.String(), l, n, e)
		case e == api.OK:
			parsed++
			if text, e := punch.Print(l); n != 0 || e != api.OK || text != b.String() && text != b.String()+"\n" {
				t.Fatalf("%q %q %d %d", b.String(), text, n, e)
			}
		}
	}
	if parsed < 100 {
		t.Error("too few texts were parsed", parsed)
	}
}
