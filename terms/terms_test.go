package terms_test

import (
	"slices"
	"strings"
	"testing"

	"sobreiro/api"
	"sobreiro/terms"
)

func TestIsCode(t *testing.T) {
	for _, s := range []string{"A", "Z", "S1", "S-1", "S--", "AZ09-AZ0"} {
		if !terms.IsCode(s) {
			t.Errorf("%q is a code", s)
		}
	}
	for _, s := range []string{"", "a", "1S", "-S", "Sa", "S1;", "S 1", "S\n", "S_", "@A", "[A", "A@", "A[", "A/", "A:", "\x00", "Ä", "SÄ", "\xff", "S23456789", strings.Repeat("S", 60000)} {
		if terms.IsCode(s) {
			t.Errorf("%q is not a code", s)
		}
	}
}

func TestBounds(t *testing.T) {
	for i, x := range []struct {
		n, low, high int
		want         bool
	}{{3, 3, 5, true}, {5, 3, 5, true}, {2, 3, 5, false}, {6, 3, 5, false}, {4, 5, 3, false}} {
		if terms.Within(x.n, x.low, x.high) != x.want {
			t.Error(i)
		}
	}
	for i, x := range []struct {
		b    api.Bounds
		want bool
	}{
		{api.Bounds{Min: 3, Max: 5}, true}, {api.Bounds{Min: 4, Max: 4}, true}, {api.Bounds{Min: 5, Max: 4}, false},
		{api.Bounds{Min: 2, Max: 5}, false}, {api.Bounds{Min: 3, Max: 6}, false}, {api.Bounds{}, false},
	} {
		if terms.AreBounds(x.b, 3, 5) != x.want {
			t.Error(i)
		}
	}
}

func TestNumber(t *testing.T) {
	for s, want := range map[string]int{"0": 0, "7": 7, "10": 10, "-1": -1, "-10": -10, "999999999": 999999999, "-999999999": -999999999} {
		if n, ok := terms.Number(s); n != want || !ok {
			t.Errorf("%q: %d, %v", s, n, ok)
		}
	}
	for _, s := range []string{"", "-", "+1", "-0", "00", "01", "-01", "--1", " 1", "1 ", "1_0", "0x1", "1e1", "1.0", "x", "1\r", "１", "1000000000", "-1000000000", "9999999999999999999999", strings.Repeat("9", 60000)} {
		if n, ok := terms.Number(s); n != 0 || ok {
			t.Errorf("%q: %d, %v", s, n, ok)
		}
	}
}

func TestNumbers(t *testing.T) {
	for i, x := range []struct {
		fields []string
		want   []int
		ok     bool
	}{
		{nil, nil, true}, {[]string{"7"}, []int{7}, true}, {[]string{"3", "-1", "0"}, []int{3, -1, 0}, true},
		{[]string{""}, nil, false}, {[]string{"1", "x"}, nil, false}, {[]string{"x", "1"}, nil, false},
	} {
		if l, ok := terms.Numbers(x.fields); !slices.Equal(l, x.want) || ok != x.ok {
			t.Error(i, l, ok)
		}
	}
}

func TestLines(t *testing.T) {
	for i, x := range []struct {
		text string
		want [][]string
	}{
		{"", nil},
		{"a", [][]string{{"a"}}},
		{"a\n", [][]string{{"a"}}},
		{"\n", [][]string{{""}}},
		{"a\n\n", [][]string{{"a"}, {""}}},
		{"\na;b", [][]string{{""}, {"a", "b"}}},
		{"a;;1\n;\r\nb", [][]string{{"a", "", "1"}, {"", "\r"}, {"b"}}},
	} {
		var got [][]string
		for n, fields := range terms.Lines(x.text) {
			got = append(got, fields)
			if n != len(got) {
				t.Error(i, n)
			}
		}
		if !slices.EqualFunc(got, x.want, slices.Equal) {
			t.Error(i, got)
		}
	}
	for n := range terms.Lines("a\nb\nc") {
		if n == 2 {
			break
		}
	}
}

func TestLine(t *testing.T) {
	if s := terms.Line("tree;S1", 0, -1, 999999999); s != "tree;S1;0;-1;999999999\n" {
		t.Error(s)
	}
	if s := terms.Line("end"); s != "end\n" {
		t.Error(s)
	}
}
