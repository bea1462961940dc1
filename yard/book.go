package yard

import (
	"slices"

	"sobreiro/api"
)

// unboiled is the day of boiling of a stack that is not boiled.
const unboiled = -1

// book is the book of a yard: what is there after the deeds that were made.
type book struct {
	before, after int // how long a stack rests before it is boiled, and afterwards
	stacks        shelf[string, api.Stack]
	account       api.Account
	made          int // how many deeds were made: the index of the next one
}

func bookOf(y api.Yard) *book {
	return &book{before: y.Before, after: y.After, stacks: newShelf[string, api.Stack]()}
}

// standing returns what is there.
func (b *book) standing() api.Standing {
	return api.Standing{Stacks: b.stacks.things, Account: b.account}
}

// deedFault is the fault of a deed. A deed panics with it before it changes anything.
type deedFault api.YardFault

// need gives up on a deed that does not have what it needs.
func need(has bool, fault api.YardFault) {
	if !has {
		panic(deedFault(fault))
	}
}

// enter makes a deed, or returns its fault.
func (b *book) enter(d api.Deed) (fault api.YardFault) {
	defer func() {
		if f, is := recover().(deedFault); is {
			fault = api.YardFault(f)
		}
	}()
	f, _ := formOf(d.Kind)
	f.do(b, d)
	b.made++
	return api.YdNone
}

// stack returns the stack with a code, which must be there.
func (b *book) stack(code string) api.Stack {
	s, found := b.stacks.get(code)
	need(found, api.YdStack)
	return s
}

// needNew gives up on a new stack whose code another one has, or for which there is no room.
func (b *book) needNew(code string) {
	_, found := b.stacks.get(code)
	need(!found, api.YdStack)
	need(len(b.stacks.things) < api.MaxStacks, api.YdRoom)
}

// needRested gives up on a stack that is not boiled, or not for long enough on a day.
func (b *book) needRested(s api.Stack, day int) {
	need(s.Boiled != unboiled && day-s.Boiled >= b.after, api.YdSoon)
}

func (b *book) keep(s api.Stack) { b.stacks.put(s.Code, s) }

func (b *book) pile(d api.Deed) {
	b.needNew(d.Stack)
	b.keep(api.Stack{Code: d.Stack, Dry: d.A, Water: d.B, Piled: d.Day, Boiled: unboiled, From: []int{b.made}})
}

func (b *book) rest(d api.Deed) {
	s := b.stack(d.Stack)
	b.account.Vapour = sum(b.account.Vapour, part(s.Water, d.A))
	s.Water = left(s.Water, d.A)
	b.keep(s)
}

func (b *book) boil(d api.Deed) {
	s := b.stack(d.Stack)
	need(d.Day-s.Piled >= b.before, api.YdSoon)
	soaked := part(s.Dry, d.B)
	b.account.Soaked = sum(b.account.Soaked, soaked)
	b.account.Broth = sum(b.account.Broth, part(s.Dry, d.A))
	s.Water = sum(s.Water, soaked)
	s.Dry = left(s.Dry, d.A)
	s.Boiled = d.Day
	b.keep(s)
}

func (b *book) scrape(d api.Deed) {
	s := b.stack(d.Stack)
	b.needRested(s, d.Day)
	need(d.A.Min <= s.Dry.Max, api.YdBark)
	b.account.Dust = sum(b.account.Dust, api.Bounds{Min: d.A.Min, Max: min(d.A.Max, s.Dry.Max)})
	s.Dry = difference(s.Dry, d.A)
	s.Dry.Min = max(s.Dry.Min, 0)
	b.keep(s)
}

func (b *book) split(d api.Deed) {
	s := b.stack(d.Stack)
	b.needNew(d.Other)
	o := s
	o.Code, o.From = d.Other, slices.Clone(s.From)
	o.Dry, o.Water = part(s.Dry, d.A), part(s.Water, d.A)
	s.Dry, s.Water = left(s.Dry, d.A), left(s.Water, d.A)
	b.keep(s)
	b.keep(o)
}

func (b *book) merge(d api.Deed) {
	s, o := b.stack(d.Stack), b.stack(d.Other)
	need(d.Stack != d.Other, api.YdStack)
	s.Dry, s.Water = sum(s.Dry, o.Dry), sum(s.Water, o.Water)
	s.Piled, s.Boiled = max(s.Piled, o.Piled), laterBoiled(s.Boiled, o.Boiled)
	s.From = joined(s.From, o.From)
	b.stacks.drop(o.Code)
	b.keep(s)
}

// laterBoiled returns the later one of two days of boiling, if there are both.
func laterBoiled(a, b int) int {
	if a == unboiled || b == unboiled {
		return unboiled
	}
	return max(a, b)
}

func (b *book) weigh(d api.Deed) {
	s := b.stack(d.Stack)
	dry := common(s.Dry, difference(d.A, s.Water))
	water := common(s.Water, difference(d.A, s.Dry))
	need(dry.Min <= dry.Max && water.Min <= water.Max, api.YdScale)
	s.Dry, s.Water = dry, water
	b.keep(s)
}

func (b *book) sell(d api.Deed) {
	s := b.stack(d.Stack)
	b.needRested(s, d.Day)
	b.account.SoldDry = sum(b.account.SoldDry, s.Dry)
	b.account.SoldWater = sum(b.account.SoldWater, s.Water)
	b.stacks.drop(s.Code)
}
