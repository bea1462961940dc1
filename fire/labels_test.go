package fire_test

import (
	"math"
	"math/rand"
	"slices"
	"testing"

	"sobreiro/api"
	"sobreiro/fire"
)

// P3.3
func TestLabels(t *testing.T) {
	for i, x := range []struct {
		d    api.FireDay
		wind api.Wind
		from []int
		want []int
	}{
		{exampleDay(), calm, cells(0), cells(0, 3, 5, 2, 5, 7)},
		{exampleDay(), east, cells(0), cells(0, 1, 2, 2, 3, 4)},
		{days(within6)[0], calm, cells(0), cells(0, 3, 5, 2, 5, -1)},
		{days(withWinds(west))[0], west, cells(5), cells(4, 3, 2, 2, 1, 0)},
		{exampleDay(), calm, nil, cells(-1, -1, -1, -1, -1, -1)},
		{exampleDay(), calm, cells(0, 5), cells(0, 3, 2, 2, 2, 0)},
	} {
		if l, e := fire.Labels(exampleLand(), x.d, x.wind, x.from); !slices.Equal(l, x.want) || e != api.OK {
			t.Error(i, l, e)
		}
	}
	r := rand.New(rand.NewSource(6))
	for range 10 * often {
		l, d := someLand(r, 6, 9), someDay(r)
		from := someCells(r, l, 6)
		for w := range api.Wind(5) {
			labels, e := fire.Labels(l, d, w, from)
			if !d.Winds[w] && (labels != nil || e != api.ErrValue) {
				t.Fatal(l, d, w, labels, e)
			}
			if d.Winds[w] && (!slices.Equal(labels, hottest(l, d, w).hours(d, from)) || e != api.OK) {
				t.Fatal(l, d, w, from, labels, e)
			}
		}
	}
}

// P3.3: which labels are a proof.
func TestProves(t *testing.T) {
	l := exampleLand()
	l.Fuel[0] = bounds(0, 4)
	bare := exampleLand()
	bare.Fuel[0] = known(0)
	for i, x := range []struct {
		l      api.Land
		hours  int
		wind   api.Wind
		from   []int
		labels []int
		want   bool
	}{
		{l, 10, calm, cells(0), cells(0, 3, 5, 2, 5, 7), true},
		{l, 6, calm, cells(0), cells(0, 3, 5, 2, 5, -1), true},
		{l, 6, calm, cells(0), cells(0, 3, 5, 2, 5, 6), true},
		{l, 7, calm, cells(0), cells(0, 3, 5, 2, 5, -1), false},
		{l, 6, east, cells(0), cells(0, 3, 5, 2, 5, -1), false},
		// Labels may be early, but not late.
		{l, 10, calm, cells(0), cells(0, 0, 0, 0, 0, 0), true},
		{l, 10, calm, cells(0), cells(0, 2, 4, 1, 4, 6), true},
		{l, 10, calm, cells(0), cells(0, 4, 5, 2, 5, 7), false},
		{l, 10, calm, cells(0), cells(0, 3, 5, 3, 5, 7), false},
		{l, 10, calm, cells(0), cells(0, 3, 5, 2, 5, 8), false},
		{l, 10, calm, cells(0), cells(0, 3, 5, -1, 5, 7), false},
		// Each label is from -1 to Hours.
		{l, 10, calm, cells(0), cells(0, 3, 5, 2, 5, -2), false},
		{l, 10, calm, cells(), cells(-1, -1, -1, -1, -1, -1), true},
		{l, 10, calm, cells(), cells(-1, -1, -1, -2, -1, -1), false},
		{l, 10, calm, cells(), cells(10, 10, 10, 10, 10, 10), true},
		{l, 10, calm, cells(), cells(10, 10, 10, 11, 10, 10), false},
		{l, 10, calm, cells(), cells(10, 10, 10, math.MaxInt, 10, 10), false},
		{l, 10, calm, cells(), cells(-1, -1, -1, math.MinInt, -1, -1), false},
		// Where fire begins the label is 0, if there is fuel.
		{l, 10, calm, cells(0), cells(-1, -1, -1, -1, -1, -1), false},
		{l, 10, calm, cells(0), cells(1, 3, 5, 2, 5, 7), false},
		{bare, 10, calm, cells(0), cells(-1, -1, -1, -1, -1, -1), true},
		{bare, 10, calm, cells(0), cells(5, 8, 10, 7, 10, -1), true},
		{l, 10, calm, cells(0, 5), cells(0, 3, 2, 2, 2, 0), true},
		{l, 10, calm, cells(0, 5), cells(0, 3, 5, 2, 5, 7), false},
		// What has a label passes fire on, whether it has fuel or not.
		{bare, 10, calm, cells(), cells(0, -1, -1, -1, -1, -1), false},
		{bare, 10, calm, cells(), cells(0, 3, 5, 2, 5, 7), true},
		// What would come after Hours needs no label; what comes at Hours does.
		{l, 10, calm, cells(), cells(8, -1, -1, -1, -1, -1), false},
		{l, 10, calm, cells(), cells(9, -1, -1, -1, -1, -1), true},
		{l, 10, calm, cells(), cells(8, -1, -1, 10, -1, -1), true},
		// Neither a fire of too little strength nor a wall passes it on.
		{l, 10, calm, cells(), cells(-1, -1, -1, 10, 10, 10), true},
		{l, 10, calm, cells(3), cells(2, 5, 7, 0, 7, 9), true},
		{l, 10, calm, cells(3), cells(2, 5, 7, 0, 2, 9), false},
	} {
		d := exampleDay()
		d.Hours = x.hours
		if is, e := fire.Proves(x.l, d, x.wind, x.from, x.labels); is != x.want || e != api.OK {
			t.Error(i, is, e)
		}
	}
}

// isProof says what the document says of labels.
func isProof(s situation, d api.FireDay, from, labels []int) bool {
	for _, t := range labels {
		if t < -1 || t > d.Hours {
			return false
		}
	}
	for _, c := range from {
		if s.land.Fuel[c].Min > 0 && labels[c] != 0 {
			return false
		}
	}
	for a, t := range labels {
		for b := range labels {
			h := s.pass(a, b)
			if t >= 0 && h > 0 && t+h <= d.Hours && (labels[b] < 0 || labels[b] > t+h) {
				return false
			}
		}
	}
	return true
}

// P3.3, P3.7: what Labels returns proves it; what proves it is so in all cases with the wind; and other labels prove what the document says.
func TestProofs(t *testing.T) {
	r := rand.New(rand.NewSource(7))
	proofs, not := 0, 0
	for range 2 * often {
		l, d := someLand(r, 4, 4), someDay(r)
		from, wind := someCells(r, l, 5), api.Wind(r.Intn(5))
		d.Winds[wind] = true
		labels, _ := fire.Labels(l, d, wind, from)
		if is, e := fire.Proves(l, d, wind, from, labels); !is || e != api.OK {
			t.Fatal(l, d, wind, from, labels, is, e)
		}
		for range 8 {
			other := slices.Clone(labels)
			for range r.Intn(4) {
				other[r.Intn(len(other))] += r.Intn(5) - 2
			}
			is, e := fire.Proves(l, d, wind, from, other)
			if is != isProof(hottest(l, d, wind), d, from, other) || e != api.OK {
				t.Fatal(l, d, wind, from, other, is, e)
			}
			if !is {
				not++
				continue
			}
			proofs++
			for s := range situations(l, d) {
				for c, h := range s.hours(d, from) {
					if s.wind == wind && h >= 0 && (other[c] < 0 || h < labels[c]) {
						t.Fatal(l, d, wind, from, other, s, c, h)
					}
				}
			}
		}
	}
	if proofs < often || not < often {
		t.Error("too few of a kind", proofs, not)
	}
}
