package press

import "sobreiro/api"

// target is the bounds in which a length must lie after sanding, which only shortens.
type target struct{ least, most int }

// isReached says whether an assembly that is so long can be brought to the target.
func (t target) isReached(length api.Bounds) api.Verdict {
	switch {
	case length.Min >= t.least:
		return api.VdAlways
	case length.Max < t.least:
		return api.VdNever
	default:
		return api.VdUnknown
	}
}

// sanded returns how much is sanded off an assembly that is so long: nothing where it is too short.
func (t target) sanded(length api.Bounds) api.Bounds {
	return api.Bounds{Min: max(0, length.Min-t.most), Max: max(0, length.Max-t.least)}
}

// assembly is a body to which discs are glued, and what is to come of it.
type assembly struct {
	target
	body, disc api.Bounds // a disc has its joint with it
}

func assemblyOf(a api.Assembly) assembly {
	return assembly{
		target: target{a.Target.Min, a.Target.Max},
		body:   a.Body,
		disc:   api.Bounds{Min: a.Disc.Min + a.Glue.Min, Max: a.Disc.Max + a.Glue.Max},
	}
}

// length returns the length with so many discs, before sanding.
func (a assembly) length(discs int) api.Bounds {
	return api.Bounds{Min: a.body.Min + discs*a.disc.Min, Max: a.body.Max + discs*a.disc.Max}
}
