package yard

import "slices"

// shelf keeps things, each by its key, in the order in which their keys came.
type shelf[K comparable, T any] struct {
	keys   []K
	things []T
	places map[K]int // the indexes of the keys
}

func newShelf[K comparable, T any]() shelf[K, T] {
	return shelf[K, T]{places: map[K]int{}}
}

// get returns the thing that has a key.
func (s *shelf[K, T]) get(key K) (thing T, found bool) {
	place, found := s.places[key]
	if found {
		thing = s.things[place]
	}
	return thing, found
}

// put keeps a thing: in the place of the one that has its key, or after all others.
func (s *shelf[K, T]) put(key K, thing T) {
	if place, found := s.places[key]; found {
		s.things[place] = thing
		return
	}
	s.places[key] = len(s.keys)
	s.keys = append(s.keys, key)
	s.things = append(s.things, thing)
}

// drop keeps the thing that has a key no longer. There is one.
func (s *shelf[K, T]) drop(key K) {
	place := s.places[key]
	delete(s.places, key)
	s.keys = slices.Delete(s.keys, place, place+1)
	s.things = slices.Delete(s.things, place, place+1)
	for i, k := range s.keys[place:] {
		s.places[k] = place + i
	}
}
