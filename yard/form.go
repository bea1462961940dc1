package yard

import (
	"slices"

	"sobreiro/api"
)

// form is what deeds of a kind are like.
type form struct {
	kind  api.DeedKind
	word  string // of its line
	other bool   // it uses another stack
	most  []int  // the greatest number of each of the bounds that it uses: A, or A and B
	do    func(*book, api.Deed)
}

// forms returns the forms of all deeds.
func forms() []form {
	return []form{
		{api.YdPile, "pile", false, []int{api.MaxMass, api.MaxMass}, (*book).pile},
		{api.YdRest, "rest", false, []int{whole}, (*book).rest},
		{api.YdBoil, "boil", false, []int{whole, api.MaxSoak}, (*book).boil},
		{api.YdScrape, "scrape", false, []int{api.MaxMass}, (*book).scrape},
		{api.YdSplit, "split", true, []int{whole}, (*book).split},
		{api.YdMerge, "merge", true, nil, (*book).merge},
		{api.YdWeigh, "weigh", false, []int{api.MaxMass}, (*book).weigh},
		{api.YdSell, "sell", false, nil, (*book).sell},
	}
}

// formOf returns the form of a kind of deeds.
func formOf(kind api.DeedKind) (f form, found bool) {
	return firstForm(func(f form) bool { return f.kind == kind })
}

// formNamed returns the form of the deeds whose lines have a word.
func formNamed(word string) (f form, found bool) {
	return firstForm(func(f form) bool { return f.word == word })
}

func firstForm(wanted func(form) bool) (f form, found bool) {
	all := forms()
	i := slices.IndexFunc(all, wanted)
	if i < 0 {
		return form{}, false
	}
	return all[i], true
}
