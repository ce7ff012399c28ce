package span

import (
	"cmp"
	"slices"

	"retcon/api"
)

// Join tells spans as few as may be.
func Join(l []api.Span) []api.Span {
	some := rising(l)
	if len(some) == 0 {
		return nil
	}
	return joined(some[0], some[1:]...)
}

// Has tells whether a key is in one of some.
func Has(l []api.Span, k string) bool {
	return slices.ContainsFunc(l, func(s api.Span) bool { return In(s, k) })
}

// Covers tells whether all keys of a span are in some of others.
// Behind each that is joined lies a key that none has: so they are all in one, or not all are there.
func Covers(l []api.Span, s api.Span) bool {
	if Empty(s) {
		return true
	}
	for _, j := range Join(l) {
		if In(j, s.Lo) {
			return !ending{s}.outlasts(j)
		}
	}
	return false
}

// rising is those that are not empty, by rising Lo. The caller's list is left as it stands.
func rising(l []api.Span) []api.Span {
	var some []api.Span
	for _, s := range l {
		if !Empty(s) {
			some = append(some, s)
		}
	}
	slices.SortFunc(some, func(a, b api.Span) int {
		return cmp.Or(cmp.Compare(a.Lo, b.Lo), cmp.Compare(a.Hi, b.Hi))
	})
	return some
}

// row is spans that are joined so far: the last one, that may still grow, and those ahead of it.
type row struct {
	ending
	ahead []api.Span
}

// joined joins spans that are not empty and whose Lo do not fall.
func joined(first api.Span, more ...api.Span) []api.Span {
	r := row{ending: ending{first}}
	for _, s := range more {
		r.add(s)
	}
	return append(r.ahead, r.Span)
}

// add lets the last one grow by a span that begins in it, or right at its end; one beyond that is the last one then.
func (r *row) add(s api.Span) {
	switch {
	case r.end(s.Lo) < 0:
		r.ahead = append(r.ahead, r.Span)
		r.Span = s
	case ending{s}.outlasts(r.Span):
		r.Hi = s.Hi
	}
}
