package desk_test

import (
	"math/rand"
	"slices"
	"strconv"
	"strings"
	"testing"

	"sobreiro/api"
	"sobreiro/desk"
)

// pageOf returns a page as the chapter tells it.
func pageOf(k int, lines ...string) string {
	page := "page;" + strconv.Itoa(k) + ";" + strconv.Itoa(len(lines)) + "\n"
	for _, line := range lines {
		page += "|" + line + "\n"
	}
	return closed(page)
}

// closed returns a page with its sum after it.
func closed(page string) string {
	sum := 0
	for i := range len(page) {
		sum += int(page[i]) * (i + 1)
	}
	return page + "sum;" + strconv.Itoa(sum%65521) + "\n"
}

// pagesOf returns lines in pages.
func pagesOf(lines []string) (text string) {
	for k := 1; len(lines) > 0; k++ {
		n := min(20, len(lines))
		text += pageOf(k, lines[:n]...)
		lines = lines[n:]
	}
	return text
}

// P10.5: the chapter's example, and edges.
func TestSeal(t *testing.T) {
	for i, x := range []struct {
		lines []string
		want  string
	}{
		{nil, ""},
		{[]string{"AB"}, "page;1;1\n|AB\nsum;5380\n"},
		{[]string{""}, "page;1;1\n|\nsum;3853\n"},
		{[]string{"|", "page;2;1", "sum;0", ";\r\xff\x00"}, pageOf(1, "|", "page;2;1", "sum;0", ";\r\xff\x00")},
		{slices.Repeat([]string{"x"}, 20), pageOf(1, slices.Repeat([]string{"x"}, 20)...)},
		{slices.Repeat([]string{"x"}, 21), pageOf(1, slices.Repeat([]string{"x"}, 20)...) + pageOf(2, "x")},
		{slices.Repeat([]string{"x"}, 40), pageOf(1, slices.Repeat([]string{"x"}, 20)...) + pageOf(2, slices.Repeat([]string{"x"}, 20)...)},
		{slices.Repeat([]string{strings.Repeat("\xff", 200)}, 400), pagesOf(slices.Repeat([]string{strings.Repeat("\xff", 200)}, 400))},
	} {
		if s, e := desk.Seal(x.lines); s != x.want || e != api.OK {
			t.Errorf("%d %q %d", i, s, e)
		}
		if l, n, e := desk.Open(x.want); !slices.Equal(l, x.lines) || n != 0 || e != api.OK {
			t.Error(i, l, n, e)
		}
	}
}

// P10.5: what cannot be sealed.
func TestSealErrors(t *testing.T) {
	for i, x := range []struct {
		lines []string
		want  api.Errno
	}{
		{make([]string, 401), api.ErrCount},
		{slices.Repeat([]string{"\n"}, 401), api.ErrCount},
		{slices.Repeat([]string{"\n"}, 400), api.ErrText},
		{[]string{"\n"}, api.ErrText},
		{[]string{"A\nB"}, api.ErrText},
		{[]string{"AB", "AB\n"}, api.ErrText},
		{[]string{strings.Repeat("x", 201)}, api.ErrText},
		{append(make([]string, 399), strings.Repeat("x", 201)), api.ErrText},
		{[]string{strings.Repeat("x", 1000000)}, api.ErrText},
	} {
		if s, e := desk.Seal(x.lines); s != "" || e != x.want {
			t.Error(i, len(s), e)
		}
	}
}

// notOpened checks that a text has an error, with the number of a line.
func notOpened(t *testing.T, text string, line int, want api.Errno) {
	t.Helper()
	if l, n, e := desk.Open(text); l != nil || n != line || e != want {
		t.Errorf("%.80q: %v, %d, %d", text, l, n, e)
	}
}

// P10.5: the first line that is not as it must be.
func TestOpenWrongLines(t *testing.T) {
	one := pageOf(1, "AB") // 3 lines
	full := pageOf(1, slices.Repeat([]string{"x"}, 20)...)
	for _, x := range []struct {
		text string
		line int
		want api.Errno
	}{
		{"\n", 1, api.ErrText}, {"x", 1, api.ErrText}, {"AB\n", 1, api.ErrText}, {"|AB\n", 1, api.ErrText}, {"sum;0\n", 1, api.ErrText}, {"\n" + one, 1, api.ErrText}, {one + "\n", 4, api.ErrText}, {one + "x", 4, api.ErrText}, {full + "\n", 23, api.ErrText}, {full + "x\n", 23, api.ErrText}, {full + "|x\n", 23, api.ErrText}, {full + "sum;0\n", 23, api.ErrText},
		// page
		{"page\n", 1, api.ErrText}, {"page;1\n", 1, api.ErrText}, {"page;1;1;1\n", 1, api.ErrText}, {"page;1;\n", 1, api.ErrText}, {"page;;1\n", 1, api.ErrText}, {"Page;1;1\n|AB\n", 1, api.ErrText}, {"page;01;1\n", 1, api.ErrText}, {"page;1;01\n", 1, api.ErrText}, {"page;+1;1\n", 1, api.ErrText}, {"page;x;1\n", 1, api.ErrText}, {"page;1;x\n", 1, api.ErrText}, {"page;1;1\r\n", 1, api.ErrText}, {" page;1;1\n", 1, api.ErrText}, {"page;1000000000;1\n", 1, api.ErrText}, {"page;1;1", 1, api.ErrText},
		{"page;1;0\n", 1, api.ErrText}, {"page;1;21\n", 1, api.ErrText}, {"page;1;-1\n", 1, api.ErrText}, {"page;1;999999999\n", 1, api.ErrText},
		{pageOf(0, "AB"), 1, api.ErrOrder}, {pageOf(2, "AB"), 1, api.ErrOrder}, {pageOf(-1, "AB"), 1, api.ErrOrder}, {"page;999999999;20\n", 1, api.ErrOrder}, {"page;2;1\n", 1, api.ErrOrder}, {"page;2;1", 1, api.ErrText}, {"page;2;0\n", 1, api.ErrText}, {"page;2;21\n", 1, api.ErrText},
		{full + full, 23, api.ErrOrder}, {full + pageOf(3, "AB"), 23, api.ErrOrder}, {full + pageOf(0, "AB"), 23, api.ErrOrder}, {full + "page;1;0\n", 23, api.ErrText}, {full + "page;1;1", 23, api.ErrText},
		// A page that is not the last one has as many lines as can be.
		{one + pageOf(2, "AB"), 4, api.ErrText}, {one + pageOf(1, "AB"), 4, api.ErrText}, {one + "page;2;1", 4, api.ErrText}, {pageOf(1, slices.Repeat([]string{"x"}, 19)...) + pageOf(2, "AB"), 22, api.ErrText}, {full + pageOf(2, "AB") + pageOf(3, "AB"), 26, api.ErrText}, {full + pageOf(2, "AB") + pageOf(4, "AB"), 26, api.ErrText},
		// The lines of a page
		{"page;1;1\nAB\n", 2, api.ErrText}, {"page;1;1\n\n", 2, api.ErrText}, {"page;1;1\n |AB\n", 2, api.ErrText}, {"page;1;1\n|AB", 2, api.ErrText}, {"page;1;1\n|" + strings.Repeat("x", 201) + "\n", 2, api.ErrText}, {closed("page;1;1\n|" + strings.Repeat("x", 201) + "\n"), 2, api.ErrText}, {closed("page;1;2\n|AB\n"), 3, api.ErrText}, {closed("page;1;1\n|AB\n|AB\n"), 3, api.ErrText}, {closed("page;1;1\n"), 2, api.ErrText}, {closed("page;1;2\n|AB\nAB\n"), 3, api.ErrText}, {closed("page;1;0\n"), 1, api.ErrText},
		// sum
		{"page;1;1\n|AB\nsum\n", 3, api.ErrText}, {"page;1;1\n|AB\nsum;\n", 3, api.ErrText}, {"page;1;1\n|AB\nsum;5380;\n", 3, api.ErrText}, {"page;1;1\n|AB\nsum;5380;1\n", 3, api.ErrText}, {"page;1;1\n|AB\nsum;05380\n", 3, api.ErrText}, {"page;1;1\n|AB\nsum;5380", 3, api.ErrText}, {"page;1;1\n|AB\nsum;5380\r\n", 3, api.ErrText}, {"page;1;1\n|AB\nSum;5380\n", 3, api.ErrText}, {"page;1;1\n|AB\nsum;x\n", 3, api.ErrText}, {"page;1;1\n|AB\nsum;1000000000\n", 3, api.ErrText}, {"page;1;1\n|AB\nsum;-0\n", 3, api.ErrText}, {"page;1;1\n|AB\n\n", 3, api.ErrText}, {"page;1;1\n|AB\npage;2;1\n", 3, api.ErrText}, {"page;1;1\n|AB\nsum;1", 3, api.ErrText},
		{"page;1;1\n|AB\nsum;5381\n", 3, api.ErrAgainst}, {"page;1;1\n|AB\nsum;0\n", 3, api.ErrAgainst}, {"page;1;1\n|AB\nsum;-5380\n", 3, api.ErrAgainst}, {"page;1;1\n|AB\nsum;70901\n", 3, api.ErrAgainst}, {"page;1;1\n|AB\nsum;-60141\n", 3, api.ErrAgainst}, {"page;1;1\n|BA\nsum;5380\n", 3, api.ErrAgainst}, {"page;1;1\n|AC\nsum;5380\n", 3, api.ErrAgainst}, {full + strings.Replace(pageOf(2, "AB"), "A", "B", 1), 25, api.ErrAgainst},
		// The text ends within a page.
		{"page;1;1\n", 2, api.ErrText}, {"page;1;1\n|AB\n", 3, api.ErrText}, {"page;1;2\n|AB\n", 3, api.ErrText}, {"page;1;20\n" + strings.Repeat("|x\n", 20), 22, api.ErrText}, {full + "page;2;1\n", 24, api.ErrText}, {full + "page;2;1\n|x\n", 25, api.ErrText},
		// The first of several
		{"page;1;1\n|AB\nsum;0\nx\n", 3, api.ErrAgainst}, {"page;1;1\nAB\nsum;0\n", 2, api.ErrText}, {"page;2;1\nAB\nsum;0\n", 1, api.ErrOrder},
	} {
		notOpened(t, x.text, x.line, x.want)
	}
}

// P10.5: a text has at most MaxSealed bytes, and at most MaxLines lines in its pages.
func TestOpenLongTexts(t *testing.T) {
	lines := slices.Repeat([]string{""}, 401)
	most, more := pagesOf(lines[:400]), pagesOf(lines)
	if l, n, e := desk.Open(most); !slices.Equal(l, lines[:400]) || n != 0 || e != api.OK {
		t.Error(len(l), n, e)
	}
	notOpened(t, more, 0, api.ErrCount)
	notOpened(t, pagesOf(slices.Repeat([]string{"x"}, 20000)), 0, api.ErrCount)
	// What is wrong in a line comes before.
	number := strings.Count(more, "\n")
	notOpened(t, strings.TrimSuffix(more, "\n"), number, api.ErrText)
	notOpened(t, more+"x", number+1, api.ErrText)
	notOpened(t, more+"page;22;1\n", number+1, api.ErrText)
	notOpened(t, more[:strings.LastIndex(more, "sum;")], number, api.ErrText)
	notOpened(t, more[:strings.LastIndex(more, "sum;")]+"sum;0\n", number, api.ErrAgainst)
	// The number of bytes comes before all.
	long := strings.Repeat("\n", api.MaxSealed)
	notOpened(t, long, 1, api.ErrText)
	notOpened(t, long+"\n", 0, api.ErrCount)
	notOpened(t, strings.Repeat("x", api.MaxSealed), 1, api.ErrText)
	notOpened(t, strings.Repeat("x", api.MaxSealed+1), 0, api.ErrCount)
	var full strings.Builder
	line := strings.Repeat("x", 200)
	for k := 1; full.Len() < api.MaxSealed-5000; k++ {
		full.WriteString(pageOf(k, slices.Repeat([]string{line}, 20)...))
	}
	notOpened(t, full.String(), 0, api.ErrCount)
	rest := strings.Repeat("x", api.MaxSealed-full.Len())
	notOpened(t, full.String()+rest, 1+strings.Count(full.String(), "\n"), api.ErrText)
	notOpened(t, full.String()+rest+"x", 0, api.ErrCount)
}

// someLines returns lines of any bytes, and such as look like those of pages.
func someLines(r *rand.Rand, most int) (lines []string) {
	pieces := []string{"|", ";", "page;2;1", "page;1;20", "sum;5", "sum;", "0", "1", "12", "-", " ", "\r", "\x00", "\xff", "AB", "x"}
	for range r.Intn(most + 1) {
		line := ""
		for range r.Intn(6) {
			line += pieces[r.Intn(len(pieces))]
		}
		if r.Intn(30) == 0 {
			line = strings.Repeat("\xfe", 150+r.Intn(51))
		}
		lines = append(lines, line)
	}
	return lines
}

// P10.5: what is sealed is opened as it was.
func TestSealedIsOpened(t *testing.T) {
	r := rand.New(rand.NewSource(13))
	for i := range often {
		lines := someLines(r, []int{3, 25, 65, api.MaxLines}[i%4])
		text, e := desk.Seal(lines)
		if text != pagesOf(lines) || len(text) > api.MaxSealed || e != api.OK {
			t.Fatal(lines, text, e)
		}
		if l, n, e := desk.Open(text); !slices.Equal(l, lines) || n != 0 || e != api.OK {
			t.Fatal(lines, l, n, e)
		}
	}
}

// isSeen checks that Open finds an error.
func isSeen(t *testing.T, text string, changed []byte) {
	t.Helper()
	if l, n, e := desk.Open(string(changed)); e == api.OK || l != nil || n <= 0 {
		t.Fatalf("%q %q %v %d %d", text, changed, l, n, e)
	}
}

// swaps checks that it is seen if a byte and the next one, which is another one, change places.
func swaps(t *testing.T, text string, at int) {
	t.Helper()
	if at+1 < len(text) && text[at] != text[at+1] {
		b := []byte(text)
		b[at], b[at+1] = b[at+1], b[at]
		isSeen(t, text, b)
	}
}

// P10.9: one byte that is changed, and two that change places: all of them in small texts, and some in great ones.
func TestChangesAreSeen(t *testing.T) {
	r := rand.New(rand.NewSource(14))
	for range often / 10 {
		text, _ := desk.Seal(someLines(r, 4))
		for at := range len(text) {
			for c := range 256 {
				if b := []byte(text); b[at] != byte(c) {
					b[at] = byte(c)
					isSeen(t, text, b)
				}
			}
			swaps(t, text, at)
		}
	}
	for range often / 5 {
		text, _ := desk.Seal(append(someLines(r, api.MaxLines-20), slices.Repeat([]string{strings.Repeat("\xff", 200)}, 20)...))
		for range 20 {
			at := r.Intn(len(text))
			b := []byte(text)
			b[at] += byte(1 + r.Intn(255))
			isSeen(t, text, b)
			swaps(t, text, at)
		}
	}
}

// P0.1: any text is opened without a panic, and what is opened is sealed so.
func TestOpenAnyText(t *testing.T) {
	r := rand.New(rand.NewSource(15))
	pieces := []string{"page", "sum", ";", "\n", "|", "0", "1", "20", "-", " ", "\r", "\xff", "|AB\n", "page;1;1\n", "page;2;1\n", "page;1;20\n", "sum;5380\n", pageOf(1, "AB"), pageOf(2, "AB"), pageOf(1, slices.Repeat([]string{"x"}, 20)...)}
	opened := 0
	for range 20000 {
		text := ""
		for range r.Intn(6) {
			text += pieces[r.Intn(len(pieces))]
		}
		l, n, e := desk.Open(text)
		if e != api.OK {
			if l != nil || n < 0 || n > 1+strings.Count(text, "\n") {
				t.Fatalf("%q %v %d %d", text, l, n, e)
			}
			continue
		}
		opened++
		if again, e := desk.Seal(l); again != text || n != 0 || e != api.OK {
			t.Fatalf("%q %q %d %d", text, again, n, e)
		}
	}
	if opened < 100 {
		t.Error("too few texts were opened", opened)
	}
}
