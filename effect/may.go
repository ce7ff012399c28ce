package effect

import (
	"slices"

	"retcon/api"
	"retcon/cell"
	"retcon/keys"
	"retcon/span"
)

// ended tells whether a run may have ended so: one that was not done has written nothing.
func ended(x api.Effect) bool {
	return x.Why >= 0 && x.Why <= api.EndKey && x.Steps >= 0 && x.Steps <= api.MaxFuel && (x.Why == api.EndDone || len(x.Writes) == 0)
}

// reads tells whether keys may have been read.
func reads(l []string) bool {
	return keys.Check(l) && !slices.ContainsFunc(l, func(k string) bool { return !cell.Key(k) })
}

// joined tells whether spans may have been read. There is one way alone to join them: those that are joined stay as they are.
func joined(l []api.Span) bool {
	return !slices.ContainsFunc(l, long) && slices.Equal(span.Join(l), l)
}

func long(s api.Span) bool { return len(s.Lo) > api.MaxValue || len(s.Hi) > api.MaxValue }

// writes tells whether writes may have been made: so few are laid behind the empty state, if and only if each of them may be.
func writes(l []api.Write) bool {
	_, err := cell.Apply(nil, l)
	return err == api.OK && keys.Check(wrote(l))
}

// wrote is the keys of writes, as they stand.
func wrote(l []api.Write) []string {
	var told []string
	for _, w := range l {
		told = append(told, w.K)
	}
	return told
}
