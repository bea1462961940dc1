package taint_test

import (
	"math/rand"
	"strings"
	"testing"

	"sobreiro/api"
	"sobreiro/taint"
)

const (
	lotLine    = "lot;2\n"
	plankLines = "plank;A\nplank;B\n"
	corkLines  = "cork;A\ncork;A\ncork;A\ncork;B\ncork;B\n"
	poolLines  = "pool;1;P;0;1;3\npool;2;N;1;2\npool;1;N;0\n"
	allLines   = lotLine + plankLines + corkLines + poolLines // 11 lines
)

// P9.5: what is printed, and that it is parsed as it was.
func TestPrint(t *testing.T) {
	for i, x := range []struct {
		l    api.Lot
		want string
	}{
		{exampleLot(), allLines},
		{api.Lot{}, "lot;0\n"},
		{api.Lot{Most: 12}, "lot;12\n"},
		{api.Lot{Planks: []string{"B", "A-1", "ABCDEFGH"}, Corks: []int{2, 0, 2}, Most: 1}, "lot;1\nplank;B\nplank;A-1\nplank;ABCDEFGH\ncork;ABCDEFGH\ncork;B\ncork;ABCDEFGH\n"},
		{api.Lot{Pools: []api.Pool{pool(1, always), pool(12, never), pool(7, lost)}}, "lot;0\npool;1;P\npool;12;N\npool;7;L\n"}, // without a case
		{api.Lot{Planks: []string{"A"}, Corks: make([]int, 12), Most: 3, Pools: []api.Pool{pool(3, lost, 9, 10, 11)}}, "lot;3\nplank;A\n" + strings.Repeat("cork;A\n", 12) + "pool;3;L;9;10;11\n"},
	} {
		if s, e := taint.Print(x.l); s != x.want || e != api.OK {
			t.Error(i, s, e)
		}
		for _, text := range []string{x.want, strings.TrimSuffix(x.want, "\n")} {
			if l, n, e := taint.Parse(text); !sameLot(l, x.l) || n != 0 || e != api.OK {
				t.Error(i, l, n, e)
			}
		}
	}
}

// P9.5: what is printed is parsed as it was, and printed as it was.
func TestPrintedIsParsed(t *testing.T) {
	r := rand.New(rand.NewSource(12))
	for i := range often {
		l := anyLot(r, sizes(i))
		text, e := taint.Print(l)
		if e != api.OK {
			t.Fatal(l, e)
		}
		got, n, e := taint.Parse(text)
		again, _ := taint.Print(got)
		if !sameLot(got, l) || n != 0 || e != api.OK || again != text {
			t.Fatal(text, got, n, e)
		}
	}
}

// notParsed checks that a text has an error, with the number of a line.
func notParsed(t *testing.T, text string, line int, want api.Errno) {
	t.Helper()
	l, n, e := taint.Parse(text)
	if !sameLot(l, api.Lot{}) || n != line || e != want {
		t.Errorf("%.80q: %v, %d, %d", text, l, n, e)
	}
}

// P9.5: the first line that is wrong, by its form or its place.
func TestParseWrongLines(t *testing.T) {
	const upToPlanks, upToCorks = lotLine + plankLines, lotLine + plankLines + corkLines
	for _, x := range []struct {
		text string
		line int
	}{
		{"\n", 1}, {"x", 1}, {";", 1}, {"\n" + allLines, 1}, {allLines + "\n", 12}, {lotLine + "\n", 2}, {lotLine + "\n" + plankLines, 2}, {upToPlanks + "\n" + corkLines, 4}, {lotLine + ";A\n", 2},
		// lot
		{"lot", 1}, {"lot\n", 1}, {"lot;\n", 1}, {"lot;2;\n", 1}, {"lot;2;1\n", 1}, {"lot;x\n", 1}, {"lot;-0\n", 1}, {"lot;02\n", 1}, {"lot;+2\n", 1}, {"lot;2\r\n", 1}, {"lot; 2\n", 1}, {"lot;1234567890\n", 1},
		{"Lot;2\n", 1}, {"lots;2\n", 1}, {" lot;2\n", 1}, {";2\n", 1}, {"lot 2\n", 1}, {"lot:2\n", 1},
		{plankLines, 1}, {corkLines, 1}, {poolLines, 1}, {"cork;A", 1}, {plankLines + lotLine, 1}, {"pool;1;P\n" + lotLine, 1},
		{lotLine + lotLine, 2}, {upToPlanks + lotLine, 4}, {upToCorks + lotLine, 9}, {allLines + lotLine, 12}, {lotLine + "lot;x\n", 2},
		// plank
		{lotLine + "plank\n", 2}, {lotLine + "plank;A;\n", 2}, {lotLine + "plank;A;B\n", 2}, {lotLine + "plank;A;1\n", 2}, {lotLine + "planks;A\n", 2}, {lotLine + "Plank;A\n", 2}, {lotLine + " plank;A\n", 2}, {lotLine + "plank A\n", 2},
		// cork
		{upToPlanks + "cork\n", 4}, {upToPlanks + "cork;A;\n", 4}, {upToPlanks + "cork;A;B\n", 4}, {upToPlanks + "corks;A\n", 4}, {upToPlanks + "CORK;A\n", 4}, {upToPlanks + "cork A\n", 4}, {upToPlanks + "cork;C;1\n", 4},
		// pool
		{upToCorks + "pool\n", 9}, {upToCorks + "pool;1\n", 9}, {upToCorks + "pool;;P\n", 9}, {upToCorks + "pool;1;\n", 9}, {upToCorks + "pool;1;p\n", 9}, {upToCorks + "pool;1;X;0\n", 9}, {upToCorks + "pool;1;PN;0\n", 9}, {upToCorks + "pool;1; P;0\n", 9}, {upToCorks + "pool;1;0;1\n", 9}, {upToCorks + "pool;P;1;0\n", 9}, {upToCorks + "pool;P\n", 9}, {upToCorks + "pool;1;P;\n", 9}, {upToCorks + "pool;1;P;0;\n", 9}, {upToCorks + "pool;1;P;x\n", 9}, {upToCorks + "pool;1;P;0;01\n", 9}, {upToCorks + "pool;01;P;0\n", 9}, {upToCorks + "pool;1;P;-0\n", 9}, {upToCorks + "pool;1;P;0\r\n", 9}, {upToCorks + "pool;1234567890;P;0\n", 9}, {upToCorks + "pool;1;P;1234567890\n", 9}, {upToCorks + "pool;1;N;A\n", 9}, {upToCorks + "pools;1;P;0\n", 9}, {upToCorks + "Pool;1;P;0\n", 9}, {upToCorks + "pool;1;P 0\n", 9}, {upToCorks + "pool;0;1;3\n", 9},
		// The order
		{upToCorks + "plank;C\n", 9}, {upToPlanks + "cork;A\nplank;C\ncork;C\n", 5}, {lotLine + "pool;1;P\nplank;A\n", 3}, {upToPlanks + "pool;1;P\ncork;A\n", 5}, {upToPlanks + "pool;1;P\ncork;C\n", 5}, {allLines + "cork;A\n", 12}, {allLines + "plank;C\n", 12}, {allLines + "plank;A\n", 12},
		// The first of several, before a cork without a plank, and before what is wrong in the lot.
		{allLines + "x\ny\n", 12}, {"lot;x\nplank\ncork\npool\n", 1}, {"lot;99\nplank;a\nplank;a\nx\n", 4}, {lotLine + "plank;A\nx\ncork;B\n", 3}, {lotLine + strings.Repeat("plank;A\n", 100) + "x", 102}, {lotLine + "pool;0;P;99\nx", 3}, {upToPlanks + strings.Repeat("cork;A\n", 100) + "x", 104}, {lotLine + strings.Repeat("pool;1;P\n", 100) + "x", 102}, {lotLine + "x", 2},
	} {
		notParsed(t, x.text, x.line, api.ErrText)
	}
}

// P9.5: the first cork whose plank is not in the lines before it.
func TestParseWrongPlanks(t *testing.T) {
	const upToPlanks = lotLine + plankLines
	for _, x := range []struct {
		text string
		line int
	}{
		{lotLine + "cork;A\n", 2}, {lotLine + "cork;\n", 2}, {lotLine + "cork;A\nplank;A\n", 2}, {lotLine + corkLines, 2}, {lotLine + "plank;A\n" + corkLines, 6},
		{upToPlanks + "cork;C\n", 4}, {upToPlanks + "cork;a\n", 4}, {upToPlanks + "cork;\n", 4}, {upToPlanks + "cork; A\n", 4}, {upToPlanks + "cork;A \n", 4}, {upToPlanks + "cork;A\r\n", 4}, {upToPlanks + "cork;AB\n", 4}, {upToPlanks + "cork;0\n", 4}, {upToPlanks + "cork;1", 4}, {upToPlanks + "cork;\xff", 4},
		{upToPlanks + "cork;A\ncork;B\ncork;C\ncork;D\n", 6},
		// Before wrong lines after it, and before what is wrong in the lot.
		{upToPlanks + "cork;C\nx\n", 4}, {upToPlanks + "cork;C\nplank;C\n", 4}, {upToPlanks + "cork;C\ncork\n", 4}, {"lot;99\nplank;a\nplank;a\ncork;b\n", 4}, {lotLine + strings.Repeat("plank;A\n", 100) + "cork;B", 102}, {upToPlanks + strings.Repeat("cork;A\n", 100) + "cork;C\n", 104},
	} {
		notParsed(t, x.text, x.line, api.ErrMissing)
	}
}

// P9.5: no line, and what is wrong in a lot whose lines all have their form.
func TestParseWrongLots(t *testing.T) {
	notParsed(t, "", 0, api.ErrText)
	const upToPlanks, upToCorks = lotLine + plankLines, lotLine + plankLines + corkLines
	for _, x := range []struct {
		text string
		want api.Errno
	}{
		{"lot;13\n", api.ErrValue},
		{"lot;-1\n", api.ErrValue},
		{"lot;999999999", api.ErrValue},
		{lotLine + "plank;A\nplank;B\nplank;C\nplank;D\nplank;E\nplank;F\nplank;G\n", api.ErrCount},
		{lotLine + strings.Repeat("plank;a\n", 7), api.ErrCount},
		{lotLine + strings.Repeat("plank;A\n", 6), api.ErrRepeat},
		{lotLine + "plank;a\n", api.ErrCode},
		{lotLine + "plank;\n", api.ErrCode},
		{lotLine + "plank;1\n", api.ErrCode},
		{lotLine + "plank;ABCDEFGHI\n", api.ErrCode},
		{lotLine + "plank;A\r\n", api.ErrCode},
		{lotLine + "plank;A\nplank; A\n", api.ErrCode},
		{lotLine + "plank;A\nplank;A\nplank;a\n", api.ErrRepeat},
		// A cork may be out of a plank that is none; it has the first plank with its code.
		{lotLine + "plank;\ncork;\n", api.ErrCode},
		{lotLine + "plank;a\ncork;a\n", api.ErrCode},
		{lotLine + "plank;A\nplank;A\ncork;A\n", api.ErrRepeat},
		{upToPlanks + strings.Repeat("cork;A\n", 13), api.ErrCount},
		{lotLine + strings.Repeat("pool;1;P\n", 13), api.ErrCount},
		{"lot;13\n" + strings.Repeat("pool;1;P\n", 13), api.ErrValue},
		{upToCorks + "pool;1;P;5\n", api.ErrMissing},
		{upToCorks + "pool;1;P;-1\n", api.ErrMissing},
		{upToCorks + "pool;1;P;0;0\n", api.ErrOrder},
		{upToCorks + "pool;1;P;1;0\n", api.ErrOrder},
		{upToCorks + "pool;0;P\n", api.ErrValue},
		{upToCorks + "pool;13;L\n", api.ErrValue},
		{upToCorks + "pool;-1;N\n", api.ErrValue},
		{upToCorks + "pool;0;P;0;0\n", api.ErrOrder},
		{upToCorks + "pool;0;P;5\n", api.ErrMissing},
	} {
		notParsed(t, x.text, 0, x.want)
	}
}

// P9.5: a text has at most MaxText bytes, whatever its lines are.
func TestParseLongTexts(t *testing.T) {
	long := strings.Repeat("\n", api.MaxText)
	notParsed(t, long, 1, api.ErrText)
	notParsed(t, long+"\n", 0, api.ErrCount)
	full := lotLine + plankLines
	full += strings.Repeat("cork;A\n", (api.MaxText-len(full)-1)/len("cork;A\n"))
	notParsed(t, full, 0, api.ErrCount)
	full += strings.Repeat("x", api.MaxText-len(full))
	notParsed(t, full, 1+strings.Count(full, "\n"), api.ErrText)
	notParsed(t, full+"x", 0, api.ErrCount)
	planks := lotLine + strings.Repeat("plank;A\n", (api.MaxText-len(lotLine))/len("plank;A\n"))
	notParsed(t, planks, 0, api.ErrCount)
	pools := lotLine + "pool;1;P" + strings.Repeat(";0", (api.MaxText-len(lotLine)-len("pool;1;P"))/2)
	notParsed(t, pools, 0, api.ErrMissing)
}

// R4: what is parsed has nothing in common with what else is.
func TestParsedIsNew(t *testing.T) {
	l, _, _ := taint.Parse(allLines)
	other, _, _ := taint.Parse(allLines)
	for _, p := range other.Pools {
		_ = append(p.Corks, 99, 99, 99) // not into the pool after it
	}
	clear(l.Planks)
	clear(l.Corks)
	for _, p := range l.Pools {
		clear(p.Corks)
	}
	if !sameLot(other, exampleLot()) {
		t.Error(other)
	}
}

// P0.1: any text is parsed without a panic, and what is parsed is printed so.
func TestParseAnyText(t *testing.T) {
	r := rand.New(rand.NewSource(13))
	pieces := []string{"lot", "plank", "cork", "pool", ";", ";", "\n", "\n", "0", "1", "12", "-", "", " ", "\r", "\xff", "A", "plank;C\n", "cork;A\n", "cork;B\n", "pool;1;P;0\n", "pool;2;N", "pool;12;L;1;2\n", ";4\n"}
	parsed := 0
	for range 20000 {
		var b strings.Builder
		if r.Intn(4) > 0 {
			b.WriteString([]string{lotLine, lotLine + plankLines, lotLine + plankLines + corkLines, allLines}[r.Intn(4)])
		}
		for range r.Intn(9) {
			b.WriteString(pieces[r.Intn(len(pieces))])
		}
		l, n, e := taint.Parse(b.String())
		switch {
		case e != api.OK && (!sameLot(l, api.Lot{}) || n < 0):
			t.Fatalf("%q %v %d %d", b.String(), l, n, e)
		case e == api.OK:
			parsed++
			if text, e := taint.Print(l); n != 0 || e != api.OK || text != b.String() && text != b.String()+"\n" {
				t.Fatalf("%q %q %d %d", b.String(), text, n, e)
			}
		}
	}
	if parsed < 1000 {
		t.Error("too few texts were parsed", parsed)
	}
}
