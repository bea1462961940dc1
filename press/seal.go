package press

import (
	"iter"
	"sort"

	"sobreiro/api"
)

// sealing is a verdict, and the first rule that is not surely kept.
type sealing struct {
	verdict api.Verdict
	rule    api.SealRule
}

// seal returns the verdict of a cork in a neck.
func seal(p api.Press, c api.Cork, n api.Neck) sealing {
	steps := stepsOf(p, c.Density)
	byStep := map[int]sealing{}
	for _, step := range steps {
		byStep[step] = trial{need{p, n.Depth}, c, p.Steps[step], n.Bore}.sealing()
	}
	verdict := joined(steps, func(step int) api.Verdict { return byStep[step].verdict })
	for _, step := range steps {
		if s := byStep[step]; s.verdict != api.VdAlways {
			return sealing{verdict, s.rule}
		}
	}
	return sealing{verdict, api.PsNone}
}

// joined returns the verdict that all of several have, or VdUnknown if they differ.
func joined[T any](several []T, verdictOf func(T) api.Verdict) api.Verdict {
	verdict := verdictOf(several[0])
	for _, t := range several[1:] {
		if verdictOf(t) != verdict {
			return api.VdUnknown
		}
	}
	return verdict
}

// stepsOf returns the indexes of the steps to which a density within bounds belongs: there is always one, as the first step begins at 0.
func stepsOf(p api.Press, density api.Bounds) (steps []int) {
	for i, s := range p.Steps {
		isAbove := s.From > density.Max
		isBelow := i+1 < len(p.Steps) && p.Steps[i+1].From <= density.Min
		if !isAbove && !isBelow {
			steps = append(steps, i)
		}
	}
	return steps
}

// trial is a cork of one step in a neck.
type trial struct {
	need
	cork api.Cork
	step api.Step
	bore api.Bounds
}

func (t trial) sealing() sealing {
	doubtful := t.firstDoubtful()
	switch {
	case doubtful == api.PsNone:
		return sealing{api.VdAlways, doubtful}
	case t.canSeal():
		return sealing{api.VdUnknown, doubtful}
	default:
		return sealing{api.VdNever, doubtful}
	}
}

// firstDoubtful returns the first rule that not all fits keep.
func (t trial) firstDoubtful() api.SealRule {
	for _, r := range rules() {
		for f := range t.hardest() {
			if !r.isKept(t.need, f) {
				return r.name
			}
		}
	}
	return api.PsNone
}

// canSeal says whether a fit keeps all rules. It is not enough that each rule is kept by some fit: a cork that is not crushed may be too narrow to hold, and one that is not too long too short to be close.
func (t trial) canSeal() bool {
	for f := range t.easiest() {
		if t.keepsAll(f) {
			return true
		}
	}
	return false
}

func (t trial) keepsAll(f fit) bool {
	for _, r := range rules() {
		if !r.isKept(t.need, f) {
			return false
		}
	}
	return true
}

// hardest yields fits of which one breaks a rule if any fit does: a rule that is kept at both ends of a width, or of a length, is kept between them.
func (t trial) hardest() iter.Seq[fit] {
	return func(yield func(fit) bool) {
		for _, width := range [...]int{t.cork.Width.Min, t.cork.Width.Max} {
			for _, length := range [...]int{t.cork.Length.Min, t.cork.Length.Max} {
				if !yield(fit{width: width, length: length, bore: t.bore.Max, spring: t.step.Springs.Min, breath: t.step.Breathes.Max}) {
					return
				}
			}
		}
	}
}

// easiest yields fits of which one keeps all rules if any fit does: one of each width, as long as the neck allows, since a longer cork lets less oxygen pass.
func (t trial) easiest() iter.Seq[fit] {
	return func(yield func(fit) bool) {
		length := min(t.cork.Length.Max, max(t.cork.Length.Min, t.depth))
		for width := t.cork.Width.Min; width <= t.cork.Width.Max; width++ {
			if !yield(fit{width: width, length: length, bore: t.bore.Min, spring: t.step.Springs.Max, breath: t.step.Breathes.Min}) {
				return
			}
		}
	}
}

// lastBore returns the greatest bore for which something is so that is so for each narrower one, too, or -1 if there is none.
func lastBore(isSo func(bore int) bool) int {
	return sort.Search(api.MaxWidth+1, func(bore int) bool { return !isSo(bore) }) - 1
}
