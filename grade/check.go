package grade

import (
	"sobreiro/api"
	"sobreiro/terms"
)

// Check returns the first error of a panel.
func Check(p api.Panel) api.Errno {
	if !terms.Within(p.Items, 0, api.MaxItems) || len(p.Cuts) > api.MaxCuts {
		return api.ErrCount
	}
	if e := checkCuts(p.Cuts); e != api.OK {
		return e
	}
	if len(p.Graders) > api.MaxGraders {
		return api.ErrCount
	}
	if e := checkGraders(p.Graders); e != api.OK {
		return e
	}
	if len(p.Opinions)+len(p.Pairs) > api.MaxJudged {
		return api.ErrCount
	}
	if e := checkOpinions(p); e != api.OK {
		return e
	}
	return checkPairs(p)
}

func checkCuts(cuts []int) api.Errno {
	last := 0
	for _, cut := range cuts {
		if !terms.Within(cut, 1, api.MaxScale) {
			return api.ErrValue
		}
		if cut <= last {
			return api.ErrOrder
		}
		last = cut
	}
	return api.OK
}

func checkGraders(graders []api.Grader) api.Errno {
	earlier := map[string]bool{}
	for _, g := range graders {
		switch {
		case !terms.IsCode(g.Code):
			return api.ErrCode
		case earlier[g.Code]:
			return api.ErrRepeat
		case !terms.AreBounds(g.Bias, -api.MaxBias, api.MaxBias):
			return api.ErrValue
		}
		earlier[g.Code] = true
	}
	return api.OK
}

func checkOpinions(p api.Panel) api.Errno {
	type place struct{ grader, item int }
	earlier := map[place]bool{}
	for _, o := range p.Opinions {
		at := place{o.Grader, o.Item}
		switch {
		case !isIndex(o.Grader, len(p.Graders)) || !isIndex(o.Item, p.Items):
			return api.ErrMissing
		case !terms.Within(o.Class, 0, len(p.Cuts)):
			return api.ErrValue
		case earlier[at]:
			return api.ErrRepeat
		}
		earlier[at] = true
	}
	return api.OK
}

func checkPairs(p api.Panel) api.Errno {
	for _, r := range p.Pairs {
		switch {
		case !isIndex(r.Grader, len(p.Graders)) || !isIndex(r.Better, p.Items) || !isIndex(r.Worse, p.Items):
			return api.ErrMissing
		case r.Better == r.Worse:
			return api.ErrRound
		case !terms.Within(r.By, 0, api.MaxScale):
			return api.ErrValue
		}
	}
	return api.OK
}
