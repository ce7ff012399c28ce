package cell

import (
	"maps"
	"slices"

	"retcon/api"
)

// mayBe tells whether a write may be: one that deletes has no value beside.
func mayBe(w api.Write) bool { return Key(w.K) && value(w.V) && (!w.Del || w.V == "") }

// latest is writes by their keys: of those of one key the last one alone matters.
type latest map[string]api.Write

func (m latest) lay(w api.Write) { m[w.K] = w }

func (m latest) of(k string) api.Write { return m[k] }

// rising is the keys in order: a map's own order is never to be seen.
func (m latest) rising() []string { return slices.Sorted(maps.Keys(m)) }

// overlay is writes that lie over a state, whichever it is.
type overlay struct{ latest }

// behind tells a state behind the writes: what lies between two of their keys stays as it is.
func (o overlay) behind(l []api.Pair) []api.Pair {
	told := make([]api.Pair, 0, len(l))
	for _, k := range o.rising() {
		at, there := find(l, k)
		told = append(told, l[:at]...)
		if w := o.of(k); !w.Del {
			told = append(told, api.Pair{K: k, V: w.V})
		}
		if there {
			at++
		}
		l = l[at:]
	}
	return append(told, l...)
}
