package keys

import (
	"cmp"
	"slices"

	"retcon/api"
	"retcon/span"
)

// Among tells those that are in spans.
func Among(l []string, s []api.Span) []string {
	within := area(span.Join(s))
	found := set{}
	for _, k := range l {
		if within.has(k) {
			found[k] = struct{}{}
		}
	}
	return found.rising()
}

// Meets tells whether one is among some, or in spans.
// The list may be far longer than what it is held against: it is gone through once, as it stands.
func Meets(l, some []string, s []api.Span) bool {
	named, within := gather(some), area(span.Join(s))
	return slices.ContainsFunc(l, func(k string) bool { return named.has(k) || within.has(k) })
}

// area is spans that are joined: of these a key can be in one alone, the last that begins no later.
type area []api.Span

func (a area) has(k string) bool {
	i, begins := slices.BinarySearchFunc(a, k, func(s api.Span, k string) int { return cmp.Compare(s.Lo, k) })
	return begins || i > 0 && span.In(a[i-1], k)
}
