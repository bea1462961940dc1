package tree_test

import (
	"fmt"
	"math/rand"
	"slices"
	"strings"
	"testing"

	"sobreiro/api"
	"sobreiro/tree"
)

const (
	lawLine  = "law;25;9;700;20;25;30;3\n"
	treeLine = "tree;S1;10;14;40;690;700;5;8;-1\n"
)

// P1.6: what is printed, and that it is parsed as it was.
func TestPrint(t *testing.T) {
	f := example(42, 51)
	f.Trees[0].Wounds = []int{45, 60}
	f.Trees = append(f.Trees, api.Tree{Code: "Z-9", Dead: 5}, api.Tree{Code: "A", Dead: -1, Wounds: []int{0}})
	const want = lawLine + treeLine + "strip;42;1000\nstrip;51;1000\nwound;45\nwound;60\n" +
		"tree;Z-9;0;0;0;0;0;0;0;5\n" + "tree;A;0;0;0;0;0;0;0;-1\nwound;0\n"
	if s, e := tree.Print(f); s != want || e != api.OK {
		t.Error(s, e)
	}
	if g, n, e := tree.Parse(want); !same(f, g) || n != 0 || e != api.OK {
		t.Error(g, n, e)
	}
	if s, e := tree.Print(api.Forest{Law: example().Law}); s != lawLine || e != api.OK {
		t.Error(s, e)
	}
}

// P1.6: what is printed is parsed as it was, and printed as it was.
func TestPrintedIsParsed(t *testing.T) {
	r := rand.New(rand.NewSource(22))
	for range 500 {
		f := great(r)
		for i := range r.Intn(api.MaxTrees) {
			more := great(r).Trees[0]
			more.Code = fmt.Sprintf("M-%d", i)
			f.Trees = append(f.Trees, more)
		}
		s, e := tree.Print(f)
		if e != api.OK {
			t.Fatal(f, e)
		}
		for _, text := range []string{s, strings.TrimSuffix(s, "\n")} {
			g, n, e := tree.Parse(text)
			again, _ := tree.Print(g)
			if !same(f, g) || n != 0 || e != api.OK || again != s {
				t.Fatal(text, g, n, e)
			}
		}
	}
}

// P1.6: the first line that is wrong.
func TestParseWrongLines(t *testing.T) {
	const head = lawLine + treeLine
	for i, x := range []struct {
		text string
		line int
	}{
		{"", 0}, {"\n", 1}, {"x", 1}, {";", 1}, {"\n" + lawLine, 1}, {lawLine + "\n", 2}, {lawLine + "\n" + treeLine, 2},
		// order
		{lawLine + lawLine, 2}, {head + lawLine, 3}, {treeLine, 1}, {treeLine + lawLine, 1}, {"strip;1;1\n", 1}, {"wound;1\n", 1},
		{lawLine + "strip;1;1\n", 2}, {lawLine + "wound;1\n", 2}, {head + "wound;1\nstrip;2;1\n", 4}, {head + "strip;1;1\nwound;1\nstrip;2;1\n", 5},
		// words
		{"Law;25;9;700;20;25;30;3\n", 1}, {" law;25;9;700;20;25;30;3\n", 1}, {lawLine + "tree \n", 2}, {head + "STRIP;1;1\n", 3}, {head + "wounds;1\n", 3},
		// numbers of fields
		{"law", 1}, {"law;25;9;700;20;25;30\n", 1}, {"law;25;9;700;20;25;30;3;\n", 1}, {"law;25;9;700;20;25;30;3;0\n", 1},
		{lawLine + "tree\n", 2}, {lawLine + "tree;S1\n", 2}, {lawLine + "tree;S1;10;14;40;690;700;5;8\n", 2}, {lawLine + "tree;S1;10;14;40;690;700;5;8;-1;0\n", 2},
		{lawLine + "tree;10;14;40;690;700;5;8;-1\n", 2}, {lawLine + "tree;S;1;10;14;40;690;700;5;8;-1\n", 2},
		{head + "strip\n", 3}, {head + "strip;2\n", 3}, {head + "strip;2;1;1\n", 3}, {head + "wound\n", 3}, {head + "wound;1;1\n", 3},
		// numbers
		{head + "strip; 2;1\n", 3}, {head + "strip;02;1\n", 3}, {head + "strip;+2;1\n", 3}, {head + "strip;-0;1\n", 3}, {head + "strip;;1\n", 3},
		{head + "strip;1234567890;1\n", 3}, {head + "strip;2;1\r\n", 3}, {head + "strip;2;x\n", 3}, {head + "wound;1_0\n", 3}, {head + "wound;--1\n", 3},
		{"law;x;9;700;20;25;30;3\n", 1}, {"law;25;9;700;20;25;30;x\n", 1}, {lawLine + "tree;S1;x;14;40;690;700;5;8;-1\n", 2}, {lawLine + "tree;S1;10;14;40;690;700;5;8;x\n", 2},
		// the first of several; and a wrong line before what is wrong in the forest
		{lawLine + "x\ny\n", 2}, {"law;25;0;700;20;25;30;3\ntree;s\n", 2}, {head + treeLine + "strip;1\n", 4},
	} {
		if f, n, e := tree.Parse(x.text); !same(f, api.Forest{}) || n != x.line || e != api.ErrText {
			t.Error(i, f, n, e)
		}
	}
}

// P1.6: what is wrong in a forest whose lines all have their form.
func TestParseWrongForests(t *testing.T) {
	const head = lawLine + treeLine
	for i, x := range []struct {
		text string
		want api.Errno
	}{
		{"law;25;0;700;20;25;30;3\n", api.ErrValue},
		{"law;25;9;700;20;25;30;999999999", api.ErrValue},
		{"law;-999999999;9;700;20;25;30;3", api.ErrValue},
		{lawLine + strings.Repeat("tree;;0;0;0;0;0;0;0;0\n", 21), api.ErrCount},
		{lawLine + "tree;s;10;14;40;690;700;5;8;-1\n", api.ErrCode},
		{lawLine + "tree;;10;14;40;690;700;5;8;-1\n", api.ErrCode},
		{lawLine + "tree;\xff\r\x00;10;14;40;690;700;5;8;-1\n", api.ErrCode},
		{head + treeLine, api.ErrRepeat},
		{lawLine + "tree;S1;14;10;40;690;700;5;8;-1\n", api.ErrValue},
		{head + "strip;301;1\n", api.ErrValue},
		{head + "strip;5;1\nstrip;5;1\n", api.ErrOrder},
		{head + strings.Repeat("strip;0;0\n", 11), api.ErrCount},
		{head + "wound;-1\n", api.ErrValue},
		{head + "wound;5\nwound;4\n", api.ErrOrder},
		{head + strings.Repeat("wound;-1\n", 11), api.ErrCount},
	} {
		if f, n, e := tree.Parse(x.text); !same(f, api.Forest{}) || n != 0 || e != x.want {
			t.Error(i, f, n, e)
		}
	}
}

// P1.6: a text has at most MaxText bytes, whatever its lines are.
func TestParseLongTexts(t *testing.T) {
	long := strings.Repeat("\n", api.MaxText)
	if f, n, e := tree.Parse(long); !same(f, api.Forest{}) || n != 1 || e != api.ErrText {
		t.Error(f, n, e)
	}
	if f, n, e := tree.Parse(long + "\n"); !same(f, api.Forest{}) || n != 0 || e != api.ErrCount {
		t.Error(f, n, e)
	}
	rest := "0;0;0;0;0;0;0;0"
	full := lawLine + "tree;" + strings.Repeat("x", api.MaxText-len(lawLine)-len("tree;;")-len(rest)) + ";" + rest
	if f, n, e := tree.Parse(full); len(full) != api.MaxText || !same(f, api.Forest{}) || n != 0 || e != api.ErrCode {
		t.Error(f, n, e)
	}
}

// P0.1: any text is parsed without a panic, and what is parsed is a forest.
func TestParseAnyText(t *testing.T) {
	r := rand.New(rand.NewSource(23))
	pieces := []string{"law", "tree", "strip", "wound", ";", ";", ";", "\n", "0", "1", "-1", "S1", "", " ", "\r", "\xff", lawLine, treeLine, "strip;1;1\n", "wound;1\n"}
	parsed := 0
	for range 20000 {
		var b strings.Builder
		for range r.Intn(12) {
			b.WriteString(pieces[r.Intn(len(pieces))])
		}
		f, n, e := tree.Parse(b.String())
		switch {
		case e != api.OK && (!same(f, api.Forest{}) || n < 0 || n > 0 && e != api.ErrText):
			t.Fatalf("%q %v %d %d", b.String(), f, n, e)
		case e == api.OK:
			parsed++
			if s, e := tree.Print(f); n != 0 || e != api.OK || s != b.String() && s != b.String()+"\n" {
				t.Fatalf("%q %q %d %d", b.String(), s, n, e)
			}
		}
	}
	if parsed == 0 {
		t.Error("no text was a forest's")
	}
}

// R4: the strips and wounds of trees share no memory.
func TestParsedIsNew(t *testing.T) {
	text := lawLine + treeLine + "strip;1;1\nwound;1\ntree;S2;0;0;0;0;0;0;0;0\nstrip;2;2\nwound;2\n"
	f, _, _ := tree.Parse(text)
	a, b := &f.Trees[0], f.Trees[1]
	a.Strips = append(a.Strips, api.Strip{Year: 9, Height: 9})
	a.Wounds = append(a.Wounds, 9)
	if !slices.Equal(b.Strips, []api.Strip{{Year: 2, Height: 2}}) || !slices.Equal(b.Wounds, []int{2}) {
		t.Error(b)
	}
	if g, _, e := tree.Parse(text); e != api.OK || len(g.Trees[0].Strips) != 1 {
		t.Error(g, e)
	}
}
