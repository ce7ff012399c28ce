package exec

import (
	"maps"
	"slices"

	"retcon/api"
	"retcon/span"
)

// own is the run's own writes by their keys: of those of one key the last one alone counts.
type own map[string]api.Write

func (o own) write(w api.Write) { o[w.K] = w }

func (o own) written(k string) (api.Write, bool) {
	w, ok := o[k]
	return w, ok
}

// rising is the writes by rising keys: a map's own order is never to be seen.
func (o own) rising() []api.Write {
	var told []api.Write
	for _, k := range slices.Sorted(maps.Keys(o)) {
		told = append(told, o[k])
	}
	return told
}

// within is the keys of a span that have got a value, and those that are gone.
func (o own) within(s api.Span) (put, gone []string) {
	for _, w := range o.rising() {
		switch {
		case !span.In(s, w.K):
		case w.Del:
			gone = append(gone, w.K)
		default:
			put = append(put, w.K)
		}
	}
	return put, gone
}
