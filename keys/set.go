package keys

import (
	"maps"
	"slices"
)

// set is keys, each once, in no order: none of it is told but by has and rising.
type set map[string]struct{}

// gather is the keys of lists, as many as there are.
func gather(lists ...[]string) set {
	s := set{}
	for _, l := range lists {
		for _, k := range l {
			s[k] = struct{}{}
		}
	}
	return s
}

func (s set) has(k string) bool {
	_, ok := s[k]
	return ok
}

// rising is the keys in order, in memory of their own.
func (s set) rising() []string { return slices.Sorted(maps.Keys(s)) }
