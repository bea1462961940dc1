package fire_test

import (
	"math/rand"
	"slices"
	"strings"
	"testing"

	"sobreiro/api"
	"sobreiro/fire"
)

// P3.5
func TestDryness(t *testing.T) {
	sixty := slices.Repeat([]api.Bounds{known(0)}, 60)
	for i, x := range []struct {
		start      api.Bounds
		rain, want []api.Bounds
	}{
		{bounds(3, 4), []api.Bounds{known(0), bounds(2, 5), bounds(0, 1)}, []api.Bounds{bounds(4, 5), bounds(0, 3), bounds(0, 4)}},
		{bounds(0, 9), nil, nil},
		{bounds(0, 9), []api.Bounds{}, nil},
		// It rises to at most 9, and falls to at least 0.
		{bounds(8, 9), fuels(0, 0, 0), []api.Bounds{known(9), known(9), known(9)}},
		{bounds(2, 9), fuels(3, 50), []api.Bounds{bounds(0, 6), known(0)}},
		{bounds(2, 4), fuels(1, 1), []api.Bounds{bounds(1, 3), bounds(0, 2)}},
		// Where it may rain or not, the greatest dryness rises and the least one falls.
		{bounds(5, 5), []api.Bounds{bounds(0, 50)}, []api.Bounds{bounds(0, 6)}},
		{bounds(9, 9), []api.Bounds{bounds(0, 2)}, []api.Bounds{bounds(7, 9)}},
		{bounds(5, 5), []api.Bounds{bounds(1, 50)}, []api.Bounds{bounds(0, 4)}},
		{bounds(0, 0), sixty, append(fuels(1, 2, 3, 4, 5, 6, 7, 8), slices.Repeat(fuels(9), 52)...)},
	} {
		if l, e := fire.Dryness(x.start, x.rain); !slices.Equal(l, x.want) || e != api.OK {
			t.Error(i, l, e)
		}
	}
}

// P3.5, P3.8, P0.2: whatever really rains, the dryness is within the bounds, and both ends are reached.
func TestDrynessReally(t *testing.T) {
	r := rand.New(rand.NewSource(10))
	for range 10 * often {
		start, rain := within(r, 0, 9), make([]api.Bounds, r.Intn(6))
		can := map[int]bool{}
		for n := start.Min; n <= start.Max; n++ {
			can[n] = true
		}
		var want []api.Bounds
		for i := range rain {
			rain[i] = within(r, 0, []int{1, 4, 50}[r.Intn(3)])
			next := map[int]bool{}
			for n := range can {
				for fall := rain[i].Min; fall <= rain[i].Max; fall++ {
					if fall == 0 {
						next[min(9, n+1)] = true
					} else {
						next[max(0, n-fall)] = true
					}
				}
			}
			can = next
			want = append(want, boundsOf(can))
		}
		if l, e := fire.Dryness(start, rain); !slices.Equal(l, want) || e != api.OK {
			t.Fatal(start, rain, l, e, want)
		}
	}
}

const (
	landLine  = "land;3;2;8;12\n"
	rowLines  = "row;4;4;2;3;4;4\nrow;4;4;4;4;4;4\n"
	wallLine  = "wall;3;4;12\n"
	dayLine   = "day;5;6;CE;10\n"
	headLines = landLine + rowLines
	allLines  = headLines + wallLine + dayLine
	oneCell   = "land;1;1;0;1\nrow;0;9\n"
)

// P3.5: what is printed, and that it is parsed as it was.
func TestPrint(t *testing.T) {
	bare := exampleLand()
	bare.Walls = nil
	walls := exampleLand()
	walls.Walls = []api.Wall{{A: 5, B: 2}, {A: 0, B: 1, Hold: 30}}
	cell := api.Land{Width: 1, Height: 1, Slow: 1, Fuel: []api.Bounds{bounds(0, 9)}}
	for i, x := range []struct {
		l    api.Land
		days []api.FireDay
		want string
	}{
		{exampleLand(), days(asItIs), allLines},
		{bare, nil, headLines},
		{bare, []api.FireDay{}, headLines},
		{walls, nil, headLines + "wall;5;2;0\nwall;0;1;30\n"},
		{cell, []api.FireDay{day(0, 9, 200, calm, north, east, south, west), day(9, 9, 0, west), day(0, 0, 1, north, south)}, oneCell + "day;0;9;CNESW;200\nday;9;9;W;0\nday;0;0;NS;1\n"},
		{flat(2, 3, 7), nil, "land;2;3;0;1\nrow;7;7;7;7\nrow;7;7;7;7\nrow;7;7;7;7\n"},
	} {
		if s, e := fire.Print(x.l, x.days); s != x.want || e != api.OK {
			t.Error(i, s, e)
		}
		for _, text := range []string{x.want, strings.TrimSuffix(x.want, "\n")} {
			if l, days, n, e := fire.Parse(text); !sameLand(l, x.l) || !slices.Equal(days, x.days) || n != 0 || e != api.OK {
				t.Error(i, l, days, n, e)
			}
		}
	}
}

// P3.5: what is printed is parsed as it was, and printed as it was.
func TestPrintedIsParsed(t *testing.T) {
	r := rand.New(rand.NewSource(11))
	for range often {
		l, days := someLand(r, 8, 20), someDays(r, 10)
		text, e := fire.Print(l, days)
		if e != api.OK {
			t.Fatal(l, days, e)
		}
		p, o, n, e := fire.Parse(text)
		again, _ := fire.Print(p, o)
		if !sameLand(p, l) || !slices.Equal(o, days) || n != 0 || e != api.OK || again != text {
			t.Fatal(text, p, o, n, e)
		}
	}
}

// notParsed checks that a text has an error, with the number of a line.
func notParsed(t *testing.T, text string, line int, want api.Errno) {
	t.Helper()
	l, days, n, e := fire.Parse(text)
	if !sameLand(l, api.Land{}) || days != nil || n != line || e != want {
		t.Errorf("%.60q: %v, %v, %d, %d", text, l, days, n, e)
	}
}

// P3.5: the first line that is wrong.
func TestParseWrongLines(t *testing.T) {
	for _, x := range []struct {
		text string
		line int
	}{
		{"\n", 1}, {"x", 1}, {";", 1}, {"\n" + allLines, 1}, {allLines + "\n", 6}, {headLines + "\n", 4}, {landLine + "\n", 2},
		// land
		{"land", 1}, {"land\n", 1}, {"land;3;2;8\n", 1}, {"land;3;2;8;12;1\n", 1}, {"land;3;2;8;x\n", 1}, {"land;3;2;;12\n", 1}, {"land;03;2;8;12\n", 1}, {"land;3;2;-0;12\n", 1},
		{"land;3;2;8;+12\n", 1}, {"land;3;2;8;12\r\n", 1}, {"land;3;2;8;1234567890\n", 1}, {"Land;3;2;8;12\n", 1}, {"lands;3;2;8;12\n", 1}, {rowLines, 1}, {dayLine, 1}, {wallLine, 1},
		{landLine + landLine, 2}, {headLines + landLine, 4}, {allLines + landLine, 6},
		// row
		{landLine + "row\n", 2}, {landLine + "row;4\n", 2}, {landLine + "row;4;4;4\n", 2}, {landLine + "row;4;x\n", 2}, {landLine + "row;;4\n", 2}, {landLine + "row;4;4;\n", 2}, {landLine + "row;\n", 2},
		{landLine + "row;4;4;4;4;4;4\nrow;1\n", 3}, {landLine + "row;4;4;4;4;4;4\n" + wallLine, 3}, {landLine + "row;4;4;4;4;4;4\n" + dayLine, 3}, {landLine + wallLine, 2}, {landLine + dayLine, 2},
		{landLine + "rows;4;4\n", 2}, {headLines + "row;4;4;4;4;4;4\n", 4}, {headLines + wallLine + "row;4;4\n", 5}, {allLines + "row;4;4\n", 6},
		// As many rows as Height says, or none if no land has so many.
		{"land;3;0;8;12\n" + rowLines, 2}, {"land;3;-1;8;12\n" + rowLines, 2}, {"land;3;9;8;12\n" + rowLines, 2}, {"land;3;1;8;12\n" + rowLines, 3},
		{"land;3;8;8;12\n" + strings.Repeat("row;4;4\n", 9), 10},
		// wall
		{headLines + "wall\n", 4}, {headLines + "wall;3\n", 4}, {headLines + "wall;3;4\n", 4}, {headLines + "wall;3;4;12;1\n", 4}, {headLines + "wall;3;4;x\n", 4}, {headLines + "wall;3;;12\n", 4},
		{headLines + "walls;3;4;12\n", 4}, {headLines + dayLine + wallLine, 5}, {headLines + wallLine + dayLine + wallLine, 6},
		// day
		{headLines + "day\n", 4}, {headLines + "day;5;6\n", 4}, {headLines + "day;5;6;CE\n", 4}, {headLines + "day;5;6;CE;10;1\n", 4}, {headLines + "day;5;x;CE;10\n", 4}, {headLines + "day;x;6;CE;10\n", 4},
		{headLines + "day;5;6;CE;x\n", 4}, {headLines + "day;5;6;CE;\n", 4}, {headLines + "day;5;6;;10\n", 4}, {headLines + "day;5;6;EC;10\n", 4}, {headLines + "day;5;6;CC;10\n", 4}, {headLines + "day;5;6;WS;10\n", 4},
		{headLines + "day;5;6;CNESWC;10\n", 4}, {headLines + "day;5;6;c;10\n", 4}, {headLines + "day;5;6;X;10\n", 4}, {headLines + "day;5;6;C-;10\n", 4}, {headLines + "day;5;6;-C;10\n", 4}, {headLines + "day;5;6;--;10\n", 4},
		{headLines + "day;5;6; C;10\n", 4}, {headLines + "day;5;6;0;10\n", 4}, {headLines + "day;5;6;\xff;10\n", 4}, {headLines + "day;5;6;CE;10\r\n", 4}, {headLines + "days;5;6;CE;10\n", 4}, {allLines + "day;5\n", 6},
		// The first of several, and before what is wrong in the land or the days.
		{headLines + "x\ny\n", 4}, {"land;0;99;-1;0\nx\n", 2}, {headLines + "wall;9;9;99\nday;9;0;-;999\nx\n", 6},
	} {
		notParsed(t, x.text, x.line, api.ErrText)
	}
}

// P3.5: too few lines, and what is wrong in land and days whose lines all have their form.
func TestParseWrongLands(t *testing.T) {
	for _, text := range []string{"", landLine, "land;3;2;8;12", landLine + "row;4;4;2;3;4;4\n", "land;99;2;99;99\nrow;9;0\n", "land;1;8;0;1\n" + strings.Repeat("row;4;4\n", 7)} {
		notParsed(t, text, 0, api.ErrText)
	}
	for _, x := range []struct {
		text string
		want api.Errno
	}{
		{"land;3;0;8;12\n", api.ErrValue},
		{"land;3;-1;8;12", api.ErrValue},
		{"land;3;9;8;12\n" + wallLine + dayLine, api.ErrValue},
		{"land;3;999999999;8;12\n" + dayLine, api.ErrValue},
		{"land;9;2;8;12\n" + rowLines, api.ErrValue},
		{"land;0;2;8;12\n" + rowLines, api.ErrValue},
		{"land;3;2;31;12\n" + rowLines, api.ErrValue},
		{"land;3;2;8;0\n" + rowLines, api.ErrValue},
		{"land;3;2;8;61\n" + rowLines, api.ErrValue},
		{"land;2;2;8;12\n" + rowLines, api.ErrCount},
		{"land;4;2;8;12\n" + rowLines, api.ErrCount},
		{landLine + "row;4;4;4;4;4;4\nrow;4;4;4;4\n", api.ErrCount},
		{landLine + "row;5;4;4;4;4;4\nrow;4;4;4;4\n", api.ErrCount},
		{landLine + "row;5;4;4;4;4;4\nrow;4;4;4;4;4;4\n", api.ErrValue},
		{landLine + "row;4;4;4;4;4;4\nrow;4;4;4;4;4;10\n", api.ErrValue},
		{landLine + "row;-1;4;4;4;4;4\nrow;4;4;4;4;4;4\n", api.ErrValue},
		{headLines + strings.Repeat(wallLine, 41), api.ErrCount},
		{headLines + "wall;5;6;31\n", api.ErrMissing},
		{headLines + "wall;2;3;31\n", api.ErrOrder},
		{headLines + wallLine + wallLine, api.ErrRepeat},
		{headLines + "wall;3;4;31\n", api.ErrValue},
		{headLines + strings.Repeat("day;9;0;-;999\n", 11), api.ErrCount},
		{headLines + "day;6;5;C;10\n", api.ErrValue},
		{headLines + "day;5;10;-;10\n", api.ErrValue},
		{headLines + "day;5;6;C;201\n", api.ErrValue},
		{headLines + "day;5;6;-;10\n", api.ErrCount},
		{headLines + "day;5;6;-;10\nday;6;5;C;10\n", api.ErrCount},
		{headLines + "wall;3;4;31\n" + strings.Repeat(dayLine, 11), api.ErrValue},
	} {
		notParsed(t, x.text, 0, x.want)
	}
	if l, days, n, e := fire.Parse(headLines + strings.Repeat(dayLine, 10)); l.Walls != nil || len(days) != 10 || n != 0 || e != api.OK {
		t.Error(l, days, n, e)
	}
	// The cells' fuels are those of all rows together.
	uneven := landLine + "row;4;4;2;3\nrow;4;4;4;4;4;4;4;4\n" + wallLine + dayLine
	if l, days, n, e := fire.Parse(uneven); !sameLand(l, exampleLand()) || len(days) != 1 || n != 0 || e != api.OK {
		t.Error(l, days, n, e)
	}
}

// P3.5: a text has at most MaxText bytes, whatever its lines are.
func TestParseLongTexts(t *testing.T) {
	long := strings.Repeat("\n", api.MaxText)
	notParsed(t, long, 1, api.ErrText)
	notParsed(t, long+"\n", 0, api.ErrCount)
	full := allLines + strings.Repeat(dayLine, (api.MaxText-len(allLines)-1)/len(dayLine))
	full += strings.Repeat("x", api.MaxText-len(full))
	notParsed(t, full, 1+strings.Count(full, "\n"), api.ErrText)
	notParsed(t, full+"x", 0, api.ErrCount)
	wide := "land;8;1;0;1\nrow" + strings.Repeat(";0;0", api.MaxText)
	notParsed(t, wide[:len("land;8;1;0;1\nrow")+4*1000]+"\n", 0, api.ErrCount)
	notParsed(t, wide, 0, api.ErrCount)
}

// P0.1: any text is parsed without a panic, and what is parsed is printed so.
func TestParseAnyText(t *testing.T) {
	r := rand.New(rand.NewSource(12))
	pieces := []string{"land", "row", "wall", "day", ";", ";", "\n", "\n", "0", "1", "2", "-", "C", "NE", "", " ", "\r", "\xff", "wall;0;1;5\n", "wall;4;5;30\n", "day;0;1;CS;9\n", "day;0;9;W;200\n", "day;0;1;-;9\n"}
	parsed := 0
	for range 20000 {
		var b strings.Builder
		if r.Intn(4) > 0 {
			b.WriteString(headLines)
		}
		for range r.Intn(9) {
			b.WriteString(pieces[r.Intn(len(pieces))])
		}
		l, days, n, e := fire.Parse(b.String())
		switch {
		case e != api.OK && (!sameLand(l, api.Land{}) || days != nil || n < 0 || n > 0 && e != api.ErrText):
			t.Fatalf("%q %v %v %d %d", b.String(), l, days, n, e)
		case e == api.OK:
			parsed++
			if text, e := fire.Print(l, days); n != 0 || e != api.OK || text != b.String() && text != b.String()+"\n" {
				t.Fatalf("%q %q %d %d", b.String(), text, n, e)
			}
		}
	}
	if parsed < 100 {
		t.Error("too few texts were parsed", parsed)
	}
}
