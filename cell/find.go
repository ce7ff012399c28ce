package cell

import (
	"cmp"
	"sort"

	"retcon/api"
)

// asked is a key, and the state that is asked for it.
type asked struct {
	key   string
	state []api.Pair
}

// against tells how the key stands to that of a pair: below 0 ahead of it, 0 the same, above 0 behind it.
func (a asked) against(i int) int { return cmp.Compare(a.key, a.state[i].K) }

// find tells the place of the first pair of a state whose key is not less than one, and whether it has that one.
func find(l []api.Pair, k string) (int, bool) {
	return sort.Find(len(l), asked{k, l}.against)
}

// lesser tells which of two states, one of which at least has pairs left, comes next: below 0 the first one, above 0 the other one, 0 both, since their first keys are the same.
func lesser(a, b []api.Pair) int {
	switch {
	case len(b) == 0:
		return -1
	case len(a) == 0:
		return 1
	}
	return cmp.Compare(a[0].K, b[0].K)
}
