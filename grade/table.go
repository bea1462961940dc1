package grade

import (
	"slices"

	"sobreiro/api"
)

// judgement is what a grader says.
type judgement interface {
	judge() int // the index of the grader
	line() (word string, numbers []int)
}

// opinion is a judgement about an item.
type opinion api.Opinion

// pair is a judgement about two items.
type pair api.Pair

func (o opinion) judge() int { return o.Grader }

func (r pair) judge() int { return r.Grader }

// judgementsOf returns the judgements of a panel in the order of their numbers.
func judgementsOf(p api.Panel) (l []judgement) {
	for _, o := range p.Opinions {
		l = append(l, opinion(o))
	}
	for _, r := range p.Pairs {
		l = append(l, pair(r))
	}
	return l
}

// unknown is what nobody knows of a panel: the value of an item, or how strict a grader is. Strictness is the bias turned round, so that each judgement is about the difference of two unknowns.
type unknown int

// zero stands for the number 0, from which unknowns differ by their bounds.
const zero unknown = 0

// table is a panel at which judgements are compared.
type table struct {
	api.Panel
	judgements []judgement
	frame      []difference[unknown]   // the bounds, which hold whatever is judged
	demands    [][]difference[unknown] // of each judgement
}

func tableOf(p api.Panel) *table {
	t := &table{Panel: p, judgements: judgementsOf(p)}
	for item := range p.Items {
		t.bound(t.value(item), 0, api.MaxScale)
	}
	for grader, g := range p.Graders {
		t.bound(t.strictness(grader), -g.Bias.Max, -g.Bias.Min)
	}
	for _, j := range t.judgements {
		t.demands = append(t.demands, t.demandsOf(j))
	}
	return t
}

func (t *table) value(item int) unknown { return unknown(1 + item) }

func (t *table) strictness(grader int) unknown { return unknown(1 + t.Items + grader) }

// bound lets an unknown be from low to high.
func (t *table) bound(u unknown, low, high int) {
	t.frame = append(t.frame, difference[unknown]{zero, u, low}, difference[unknown]{u, zero, -high})
}

// demandsOf returns the differences that hold if a judgement does.
func (t *table) demandsOf(j judgement) (l []difference[unknown]) {
	switch j := j.(type) {
	case opinion:
		value, strictness := t.value(j.Item), t.strictness(j.Grader)
		if j.Class > 0 {
			l = append(l, difference[unknown]{strictness, value, t.Cuts[j.Class-1]})
		}
		if j.Class < len(t.Cuts) {
			l = append(l, difference[unknown]{value, strictness, 1 - t.Cuts[j.Class]})
		}
	case pair:
		l = append(l, difference[unknown]{t.value(j.Worse), t.value(j.Better), j.By})
	}
	return l
}

// system returns the system in which some judgements hold.
func (t *table) system(judgements []int) system[unknown] {
	s := system[unknown]{many: 1 + t.Items + len(t.Graders), differences: slices.Clone(t.frame)}
	for _, j := range judgements {
		s.differences = append(s.differences, t.demands[j]...)
	}
	return s
}

// contradict says whether some judgements contradict each other.
func (t *table) contradict(judgements []int) bool {
	_, found := t.system(judgements).least()
	return !found
}

// all returns all judgements.
func (t *table) all() []int { return t.without(nil) }

// without returns the judgements of all graders but some.
func (t *table) without(graders []int) (judgements []int) {
	for n, j := range t.judgements {
		if !slices.Contains(graders, j.judge()) {
			judgements = append(judgements, n)
		}
	}
	return judgements
}
