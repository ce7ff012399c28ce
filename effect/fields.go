package effect

import (
	"retcon/api"
	"retcon/word"
)

// What stands ahead of a write's value: a key that is gone has none.
const (
	stays = 0
	gone  = 1
)

// writer is word's writer, that knows what an effect has, too.
type writer struct{ *word.Writer }

func (w writer) span(s api.Span) {
	w.Text(s.Lo)
	w.Text(s.Hi)
}

func (w writer) write(x api.Write) {
	w.Text(x.K)
	if x.Del {
		w.Int(gone)
		return
	}
	w.Int(stays)
	w.Text(x.V)
}

// put writes how many a list has, and each by what writes one.
func put[T any](w writer, l []T, one func(T)) {
	w.Int(len(l))
	for _, x := range l {
		one(x)
	}
}

// reader is word's reader, that knows what an effect has, too.
type reader struct{ *word.Reader }

func (r reader) key() string { return r.Text(api.MaxKey) }

func (r reader) value() string { return r.Text(api.MaxValue) }

// span reads an end behind the other one: an end is what a register held, so it may be longer than a key.
func (r reader) span() api.Span {
	lo := r.value()
	return api.Span{Lo: lo, Hi: r.value()}
}

func (r reader) write() api.Write {
	x := api.Write{K: r.key()}
	if r.Int(stays, gone) == gone {
		x.Del = true
		return x
	}
	x.V = r.value()
	return x
}

// take reads how many a list has, and each by what reads one.
// Behind a fault that reads nothing any more: what is told then counts for nothing.
func take[T any](r reader, one func() T) []T {
	var l []T
	for range r.Count(api.MaxProg) {
		l = append(l, one())
	}
	return l
}
