package ring

import (
	"slices"
	"sync"

	"sobreiro/api"
)

// Cut returns what is known of a climate when the rings of its first years have been measured, and the number of years. If the rings contradict the climate it returns the first ring that does.
func Cut(s api.Site, c api.Climate, rings int, measured []api.Bounds) (o api.Climate, year int, e api.Errno) {
	if e := checkRings(s, c, rings); e != api.OK {
		return api.Climate{}, 0, e
	}
	if e := checkMeasured(c, measured, 0); e != api.OK {
		return api.Climate{}, 0, e
	}
	g := growthOf(s, rings)
	l := coursesOf(g.narrow(c, 0, measured))
	if !l.exist() {
		return api.Climate{}, firstAgainst(g, c, measured), api.ErrAgainst
	}
	c.Years = l.kinds()
	return c, len(c.Years), api.OK
}

// firstAgainst returns the first measured ring with which, and with those before it, no course agrees; 0 if there is no course at all.
func firstAgainst(g growth, c api.Climate, measured []api.Bounds) int {
	for n := range measured {
		if !coursesOf(g.narrow(c, 0, measured[:n+1])).exist() {
			return n
		}
	}
	return 0
}

// Match returns the years in which the first of the measured rings can have grown.
func Match(s api.Site, c api.Climate, measured []api.Bounds) ([]int, api.Errno) {
	if e := checkBoth(s, c); e != api.OK {
		return nil, e
	}
	if e := checkMeasured(c, measured, 1); e != api.OK {
		return nil, e
	}
	g := growthOf(s, 0)
	found := make(chan int)
	var tries sync.WaitGroup
	for year := range len(c.Years) - len(measured) + 1 {
		tries.Go(func() {
			if coursesOf(g.narrow(c, year, measured)).exist() {
				found <- year
			}
		})
	}
	go func() {
		tries.Wait()
		close(found)
	}()
	var years []int
	for year := range found {
		years = append(years, year)
	}
	slices.Sort(years) // they come as the goroutines end
	return years, api.OK
}
