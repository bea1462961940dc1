package ring_test

import (
	"math/rand"
	"slices"
	"strings"
	"testing"

	"sobreiro/api"
	"sobreiro/ring"
)

const (
	ageLine   = "age;800;1000\n"
	growLines = "grow;0;100;150\ngrow;1;200;300\ngrow;2;300;401\n"
	dryLine   = "dry;1;2\n"
	nextLines = "next;0;0\nnext;0;1\nnext;0;2\nnext;1;0\nnext;1;1\nnext;1;2\nnext;2;0\nnext;2;1\n"
	yearLines = "year;MW\nyear;DMW\nyear;DM\n"
	headLines = ageLine + growLines + dryLine
	allLines  = headLines + nextLines + yearLines
)

// P2.4
func TestClass(t *testing.T) {
	limits := []int{270, 320}
	for i, x := range []struct {
		limits      []int
		thick       api.Bounds
		least, most int
	}{
		{limits, bounds(260, 641), 0, 2},
		{limits, bounds(269, 269), 0, 0},
		{limits, bounds(270, 319), 1, 1},
		{limits, bounds(269, 320), 0, 2},
		{limits, bounds(320, 200000), 2, 2},
		{nil, bounds(0, 200000), 0, 0},
		{[]int{}, bounds(0, 0), 0, 0},
		{[]int{0}, bounds(0, 0), 1, 1},
		{[]int{0, 200000}, bounds(199999, 200000), 1, 2},
		{[]int{0, 1, 2, 3, 4, 5, 6, 7, 8, 9}, bounds(4, 9), 5, 10},
	} {
		if a, b, e := ring.Class(x.limits, x.thick); a != x.least || b != x.most || e != api.OK {
			t.Error(i, a, b, e)
		}
	}
	r := rand.New(rand.NewSource(12))
	for range often {
		var limits []int
		for n := range 40 {
			if r.Intn(8) == 0 && len(limits) < api.MaxClasses {
				limits = append(limits, n)
			}
		}
		thick := within(r, 0, 45)
		class := func(n int) (class int) {
			for _, l := range limits {
				if l <= n {
					class++
				}
			}
			return class
		}
		if a, b, e := ring.Class(limits, thick); a != class(thick.Min) || b != class(thick.Max) || e != api.OK {
			t.Fatal(limits, thick, a, b, e)
		}
	}
}

// P2.4: what is printed, and that it is parsed as it was.
func TestPrint(t *testing.T) {
	for i, x := range []struct {
		s    api.Site
		c    api.Climate
		want string
	}{
		{exampleSite(), exampleClimate(), allLines},
		{api.Site{Age: []int{0}}, api.Climate{}, "age;0\ngrow;0;0;0\ngrow;1;0;0\ngrow;2;0;0\ndry;0;0\n"},
		{exampleSite(), api.Climate{Years: years("", "D", "M", "W", "DW")}, ageLine + growLines + "dry;0;0\nyear;-\nyear;D\nyear;M\nyear;W\nyear;DW\n"},
		{exampleSite(), api.Climate{Next: [3][3]bool{{}, {true}, {false, true, true}}, Dry: bounds(1, 2)}, headLines + "next;1;0\nnext;2;1\nnext;2;2\n"},
	} {
		if s, e := ring.Print(x.s, x.c); s != x.want || e != api.OK {
			t.Error(i, s, e)
		}
		for _, text := range []string{x.want, strings.TrimSuffix(x.want, "\n")} {
			if s, c, n, e := ring.Parse(text); !sameSite(s, x.s) || !sameClimate(c, x.c) || n != 0 || e != api.OK {
				t.Error(i, s, c, n, e)
			}
		}
	}
}

// P2.4, P2.7: what is printed is parsed as it was, and printed as it was.
func TestPrintedIsParsed(t *testing.T) {
	r := rand.New(rand.NewSource(13))
	for range often {
		s, c := someSite(r), someClimate(r, 30)
		text, e := ring.Print(s, c)
		if e != api.OK {
			t.Fatal(s, c, e)
		}
		p, o, n, e := ring.Parse(text)
		again, _ := ring.Print(p, o)
		if !sameSite(p, s) || !sameClimate(o, c) || n != 0 || e != api.OK || again != text {
			t.Fatal(text, p, o, n, e)
		}
	}
}

// notParsed checks that a text has an error, with the number of a line.
func notParsed(t *testing.T, text string, line int, want api.Errno) {
	t.Helper()
	s, c, n, e := ring.Parse(text)
	if !sameSite(s, api.Site{}) || !sameClimate(c, api.Climate{}) || n != line || e != want {
		t.Errorf("%.60q: %v, %v, %d, %d", text, s, c, n, e)
	}
}

// P2.4: the first line that is wrong.
func TestParseWrongLines(t *testing.T) {
	for _, x := range []struct {
		text string
		line int
	}{
		{"\n", 1}, {"x", 1}, {";", 1}, {"\n" + allLines, 1}, {allLines + "\n", 17}, {headLines + "\n", 6}, {ageLine + "\n", 2},
		// age
		{"age", 1}, {"age\n", 1}, {"age;\n", 1}, {"age;1;\n", 1}, {"age;x\n", 1}, {"age;1;-0\n", 1}, {"age;1;01", 1}, {"age;+1", 1}, {"age; 1", 1}, {"age;1\r\n", 1},
		{"age;1234567890\n", 1}, {"Age;1\n", 1}, {"ages;1\n", 1}, {growLines + dryLine, 1}, {ageLine + ageLine, 2},
		// grow
		{ageLine + "grow\n", 2}, {ageLine + "grow;0\n", 2}, {ageLine + "grow;0;1\n", 2}, {ageLine + "grow;0;1;2;3\n", 2}, {ageLine + "grow;0;1;x\n", 2}, {ageLine + "grow;0;;1\n", 2},
		{ageLine + "grow;1;1;2\n", 2}, {ageLine + "grow;-1;1;2\n", 2}, {ageLine + "grow;x;1;2\n", 2}, {ageLine + "grow;0;1;2\ngrow;0;1;2\n", 3}, {ageLine + "grow;0;1;2\ngrow;2;1;2\n", 3},
		{ageLine + "grow;0;1;2\ngrow;1;1;2\ngrow;3;1;2\n", 4}, {ageLine + "grow;0;1;2\ngrow;1;1;2\ndry;1;2\n", 4}, {ageLine + dryLine, 2}, {ageLine + growLines + "grow;3;1;2\n", 5},
		{ageLine + "age;0;1;2\n", 2},
		// dry
		{ageLine + growLines + "dry\n", 5}, {ageLine + growLines + "dry;1\n", 5}, {ageLine + growLines + "dry;1;2;3\n", 5}, {ageLine + growLines + "dry;1;x\n", 5}, {ageLine + growLines + yearLines, 5},
		{ageLine + growLines + nextLines, 5}, {ageLine + growLines + "wet;1;2\n", 5}, {headLines + dryLine, 6}, {headLines + "grow;0;1;2\n", 6}, {headLines + ageLine, 6},
		// next
		{headLines + "next\n", 6}, {headLines + "next;0\n", 6}, {headLines + "next;0;1;2\n", 6}, {headLines + "next;0;x\n", 6}, {headLines + "next;x;0\n", 6},
		{headLines + "next;3;0\n", 6}, {headLines + "next;0;3\n", 6}, {headLines + "next;-1;2\n", 6}, {headLines + "next;1;-1\n", 6}, {headLines + "next;0;999999999\n", 6},
		{headLines + "next;0;0\nnext;0;0\n", 7}, {headLines + "next;0;1\nnext;0;0\n", 7}, {headLines + "next;1;0\nnext;0;2\n", 7}, {headLines + "next;0;2\nnext;1;0\nnext;1;0\n", 8},
		{headLines + "next;2;2\nnext;0;0\n", 7}, {headLines + "year;D\nnext;0;0\n", 7}, {headLines + "next;1;1\ndry;1;2\n", 7},
		// year
		{headLines + "year\n", 6}, {headLines + "year;\n", 6}, {headLines + "year;D;M\n", 6}, {headLines + "year;MD\n", 6}, {headLines + "year;WM\n", 6}, {headLines + "year;DD\n", 6}, {headLines + "year;DMWD\n", 6},
		{headLines + "year;d\n", 6}, {headLines + "year;X\n", 6}, {headLines + "year;D-\n", 6}, {headLines + "year;-D\n", 6}, {headLines + "year;--\n", 6}, {headLines + "year; D\n", 6}, {headLines + "year;D\r\n", 6},
		{headLines + "year;0\n", 6}, {headLines + "year;\xff\n", 6}, {headLines + "years;D\n", 6}, {headLines + "year;D\nyear;X\n", 7}, {headLines + "end\n", 6},
		// the first of several, and before what is wrong in the site or the climate
		{headLines + "x\ny\n", 6}, {"age;-1\ngrow;0;2;1\ngrow;1;0;0\ngrow;2;0;0\ndry;2;1\nx\n", 6},
	} {
		notParsed(t, x.text, x.line, api.ErrText)
	}
}

// P2.4: too few lines, and what is wrong in a site and a climate whose lines all have their form.
func TestParseWrongSites(t *testing.T) {
	lines := strings.SplitAfter(headLines, "\n")
	for n := range 5 {
		notParsed(t, strings.Join(lines[:n], ""), 0, api.ErrText)
	}
	notParsed(t, "age;9999", 0, api.ErrText)
	ages := func(n int) string { return "age" + strings.Repeat(";0", n) + "\n" }
	for _, x := range []struct {
		text string
		want api.Errno
	}{
		{ages(21) + growLines + dryLine, api.ErrCount},
		{"age" + strings.Repeat(";-1", 21) + "\n" + growLines + dryLine, api.ErrCount},
		{"age;2001\n" + growLines + dryLine, api.ErrValue},
		{"age;0;-1\n" + growLines + dryLine, api.ErrValue},
		{ageLine + strings.Replace(growLines, "401", "2001", 1) + dryLine, api.ErrValue},
		{ageLine + strings.Replace(growLines, "100", "151", 1) + dryLine, api.ErrValue},
		{ageLine + growLines + "dry;2;1\n", api.ErrValue},
		{ageLine + growLines + "dry;0;31\n", api.ErrValue},
		{ageLine + growLines + "dry;-1;0\n", api.ErrValue},
		{headLines + strings.Repeat("year;-\n", 31), api.ErrCount},
		{ageLine + growLines + "dry;2;1\n" + strings.Repeat("year;-\n", 31), api.ErrCount},
		{"age;-999999999\n" + growLines + dryLine + strings.Repeat("year;-\n", 31), api.ErrValue},
	} {
		notParsed(t, x.text, 0, x.want)
	}
	if _, c, n, e := ring.Parse(ages(20) + growLines + dryLine + strings.Repeat("year;-\n", 30)); !slices.Equal(c.Years, make([]api.Kinds, 30)) || n != 0 || e != api.OK {
		t.Error(c, n, e)
	}
}

// P2.4: a text has at most MaxText bytes, whatever its lines are.
func TestParseLongTexts(t *testing.T) {
	long := strings.Repeat("\n", api.MaxText)
	notParsed(t, long, 1, api.ErrText)
	notParsed(t, long+"\n", 0, api.ErrCount)
	full := headLines + strings.Repeat("year;-\n", (api.MaxText-len(headLines)-1)/7)
	full += strings.Repeat("x", api.MaxText-len(full))
	notParsed(t, full, 1+strings.Count(full, "\n"), api.ErrText)
	notParsed(t, full+"x", 0, api.ErrCount)
	ages := "age" + strings.Repeat(";0", api.MaxText)
	notParsed(t, ages[:api.MaxText-len(growLines+dryLine)-2]+"\n"+growLines+dryLine, 0, api.ErrCount)
}

// P0.1: any text is parsed without a panic, and what is parsed is printed so.
func TestParseAnyText(t *testing.T) {
	r := rand.New(rand.NewSource(14))
	pieces := []string{"age", "grow", "dry", "next", "year", ";", ";", "\n", "\n", "0", "1", "2", "-", "D", "DW", "", " ", "\r", "\xff", "next;0;1\n", "next;2;2\n", "year;DM\n", "year;-\n"}
	parsed := 0
	for range 20000 {
		var b strings.Builder
		if r.Intn(4) > 0 {
			b.WriteString(headLines)
		}
		for range r.Intn(9) {
			b.WriteString(pieces[r.Intn(len(pieces))])
		}
		s, c, n, e := ring.Parse(b.String())
		switch {
		case e != api.OK && (!sameSite(s, api.Site{}) || !sameClimate(c, api.Climate{}) || n < 0 || n > 0 && e != api.ErrText):
			t.Fatalf("%q %v %v %d %d", b.String(), s, c, n, e)
		case e == api.OK:
			parsed++
			if text, e := ring.Print(s, c); n != 0 || e != api.OK || text != b.String() && text != b.String()+"\n" {
				t.Fatalf("%q %q %d %d", b.String(), text, n, e)
			}
		}
	}
	if parsed < 100 {
		t.Error("too few texts were parsed", parsed)
	}
}
