package desk_test

import (
	"math/rand"
	"slices"
	"strconv"
	"strings"
	"testing"

	"sobreiro/api"
	"sobreiro/desk"
	"sobreiro/tree"
)

// asks checks the answer to a question.
func asks(t *testing.T, i any, w api.Works, question, want string, e api.Errno) {
	t.Helper()
	if s, f := desk.Ask(w, question); s != want || f != e {
		t.Errorf("%v %q: %q %d", i, question, s, f)
	}
}

// P10.4: the chapter's example, and each form of questions.
func TestAsk(t *testing.T) {
	w := exampleWorks()
	two := changed(func(w *api.Works) { w.Entries = w.Entries[:2] })
	three := having(cut(1, "S2", 1000), cut(2, "S1", 1000), merge(3, "S1", "S2"), split(4, "S1", "X", known(250)), rest(4, "X", bounds(0, 500)))
	broken := having(cut(10, "S1", 1000), cut(11, "S2", 1433), hire(12, 5))
	for i, x := range []struct {
		w              api.Works
		question, want string
	}{
		{w, "may;S1;42;1", "never;3"},
		{w, "may;S1;50;1", "never;3"},
		{w, "may;S1;51;1862", "always"},
		{w, "may;S1;51;1863", "unknown;6"},
		{w, "may;S1;51;1970", "unknown;6"},
		{w, "may;S1;51;1971", "never;6"},
		{w, "may;S1;0;15000", "never;2"},
		{w, "may;S1;300;1", "always"},
		{broken, "may;S2;42;1400", "always"},
		{broken, "may;S1;42;1400", "never;3"},
		{two, "stack;S1", "stack;14000;14320;4200;4296"},
		{three, "stack;X", "stack;7000;7160;1050;2148"},
		{three, "stack;S1", "stack;21000;21480;6300;6444"},
		{broken, "stack;S1", "stack;14000;14320;4200;4296"},
		{two, "from;S1", "from;S1"},
		{three, "from;S1", "from;S2;S1"},
		{three, "from;X", "from;S2;S1"},
		{w, "earned", "earned;1400;1432"},
		{two, "earned", "earned;0;0"},
		{richWorks(), "earned", "earned;1260000000;1260000000"},
		{w, "shares", "shares;40;136;0;408;816"},
		{richWorks(), "shares", "shares;0;0;1000000000"},
		{changed(func(w *api.Works) { w.Partners = w.Partners[:1] }), "shares", "shares;40;136;0;1224"},
		{w, "fault", "none"},
		{changed(func(w *api.Works) { w.Entries = nil }), "fault", "none"},
		{broken, "fault", "fault;1;3;6"},
		{having(hire(0, 0), hire(0, 0), cut(0, "S3", 1)), "fault", "fault;2;1;0"},
		{having(cut(0, "S1", 1), sell(0, "S1")), "fault", "fault;1;4;3"},
		{having(sell(0, "S1")), "fault", "fault;0;4;1"},
	} {
		asks(t, i, x.w, x.question, x.want, api.OK)
	}
	w.Forest.Trees[0].Strips = make([]api.Strip, 10)
	for year := range w.Forest.Trees[0].Strips {
		w.Forest.Trees[0].Strips[year] = api.Strip{Year: year, Height: 1}
	}
	asks(t, "full", w, "fault", "fault;0;2;0", api.OK)
}

// P10.4: what is missing, what is out of its range, and what Settle says.
func TestAskErrors(t *testing.T) {
	w := exampleWorks()
	broken := having(cut(10, "S1", 1000), cut(11, "S2", 1433), hire(12, 5))
	poor := changed(func(w *api.Works) { w.Wage = 176 })
	for i, x := range []struct {
		w        api.Works
		question string
		want     api.Errno
	}{
		{w, "may;S2;42;1", api.ErrMissing},
		{w, "may;;42;1", api.ErrMissing},
		{w, "may;s1;42;1", api.ErrMissing},
		{w, "may; S1;42;1", api.ErrMissing},
		{w, "may;S2;301;0", api.ErrMissing},
		{w, "may;S1;-1;1", api.ErrValue},
		{w, "may;S1;301;1", api.ErrValue},
		{w, "may;S1;42;0", api.ErrValue},
		{w, "may;S1;42;-1", api.ErrValue},
		{w, "may;S1;42;15001", api.ErrValue},
		{w, "may;S1;999999999;-999999999", api.ErrValue},
		{w, "stack;S1", api.ErrMissing}, // it was sold
		{w, "stack;", api.ErrMissing},
		{w, "stack;S1 ", api.ErrMissing},
		{w, "from;S1", api.ErrMissing},
		{w, "from;", api.ErrMissing},
		{broken, "stack;S2", api.ErrMissing},
		{broken, "from;S2", api.ErrMissing},
		{broken, "shares", api.ErrAgainst},
		{poor, "shares", api.ErrRoom},
		{changed(func(w *api.Works) { w.Wage = 176; w.Entries = append(w.Entries, sell(30, "S1")) }), "shares", api.ErrAgainst},
	} {
		asks(t, i, x.w, x.question, "", x.want)
	}
}

// P10.4: what is no question.
func TestNoQuestions(t *testing.T) {
	for _, s := range []string{
		"", ";", "x", "May;S1;42;1", "may", "may;", "may;S1", "may;S1;42", "may;S1;42;1;", "may;S1;42;1;1", "may;S1;;1", "may;S1;42;", "may;S1;042;1", "may;S1;+42;1", "may;S1;42;-0", "may;S1;42;1 ", "may;S1;4x;1", "may;S1;1000000000;1", "may;42;1", " may;S1;42;1", "may,S1,42,1",
		"stack", "stack;S1;", "stack;S1;S1", "Stack;S1", "stacks;S1", "from", "from;S1;", "from;S1;S1", "from S1",
		"earned;", "earned;1", "Earned", "earned ", " earned", "shares;", "shares;1", "share", "fault;", "fault;0", "faults", "none", "always",
		"earned\n", "fault\n", "\nfault", "shares\r", "may;S1;42;1\n", "stack;S1\n", "stack;\n", "from;S1\nfrom;S1", "fault\nearned",
		"\x00", "\xff", strings.Repeat("fault", 20000), strings.Repeat(";", 100000), "cut;10;S1;1000", "works;0;0;0;0;0;0;1;0",
	} {
		asks(t, "no question", exampleWorks(), s, "", api.ErrText)
		asks(t, "no question", having(sell(0, "S1")), s, "", api.ErrText)
	}
}

func lineOf(word string, numbers ...int) string {
	for _, n := range numbers {
		word += ";" + strconv.Itoa(n)
	}
	return word
}

// P10.4: the answers are those of the other functions.
func TestAnswers(t *testing.T) {
	r := rand.New(rand.NewSource(12))
	answers := map[string]int{}
	for range often {
		w := someWorks(r, 1+r.Intn(api.MaxEntries), true, false)
		y, done, fault := taleOf(w).upTo(len(w.Entries))
		if fault == (api.DeskFault{}) {
			asks(t, w, w, "fault", "none", api.OK)
		} else {
			asks(t, w, w, "fault", lineOf("fault", done, int(fault.Kind), fault.Detail), api.OK)
		}
		asks(t, w, w, "earned", lineOf("earned", y.Earned.Min, y.Earned.Max), api.OK)
		s, e := desk.Settle(w)
		if e == api.OK {
			asks(t, w, w, "shares", lineOf("shares", append([]int{s.Wages, s.Commons, s.Left}, s.Shares...)...), api.OK)
		} else {
			asks(t, w, w, "shares", "", e)
		}
		for code := 'A' + rune(r.Intn(5)); code <= 'W'; code += 5 {
			i := slices.IndexFunc(y.Yard.Stacks, func(s api.Stack) bool { return s.Code == string(code) })
			if i < 0 {
				asks(t, w, w, "stack;"+string(code), "", api.ErrMissing)
				asks(t, w, w, "from;"+string(code), "", api.ErrMissing)
				continue
			}
			s := y.Yard.Stacks[i]
			from := "from"
			for _, n := range s.From {
				from += ";" + w.Entries[n].Tree
			}
			asks(t, w, w, "stack;"+string(code), lineOf("stack", s.Dry.Min, s.Dry.Max, s.Water.Min, s.Water.Max), api.OK)
			asks(t, w, w, "from;"+string(code), from, api.OK)
		}
		i := r.Intn(len(w.Forest.Trees))
		year, height := r.Intn(302)-1, r.Intn(3000)
		v, rule, e := tree.May(y.Forest, i, year, height)
		want := [...]string{lineOf("unknown", int(rule)), "always", lineOf("never", int(rule))}[v]
		if e != api.OK {
			want = ""
		}
		asks(t, w, w, lineOf("may;"+w.Forest.Trees[i].Code, year, height), want, e)
		answers[strings.Split(want, ";")[0]]++
	}
	if answers["always"] < often/20 || answers["never"] < often/20 || answers["unknown"] < often/50 {
		t.Error("too few answers of a kind", answers)
	}
}
