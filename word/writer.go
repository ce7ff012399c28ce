package word

import (
	"slices"

	"retcon/api"
)

// Writer writes bytes. New makes it.
type Writer struct{ *tape }

// New begins to write.
func New() *Writer { return &Writer{&tape{}} }

// Int writes a number.
func (w *Writer) Int(n int) {
	if w.none() {
		return
	}
	w.do(func() int {
		w.number(n)
		return len(w.bytes)
	})
}

// Text writes a text.
func (w *Writer) Text(s string) {
	if w.none() {
		return
	}
	w.do(func() int {
		w.number(len(s))
		w.bytes = append(w.bytes, s...)
		return len(w.bytes)
	})
}

// ID writes an ID.
func (w *Writer) ID(id api.ID) {
	if w.none() {
		return
	}
	w.do(func() int {
		w.bytes = append(w.bytes, id[:]...)
		return len(w.bytes)
	})
}

// Out tells what was written.
func (w *Writer) Out() ([]byte, api.Errno) {
	if w.none() {
		return nil, api.ErrNil
	}
	if w.fault.Err != api.OK {
		return nil, w.fault.Err
	}
	return slices.Clone(w.bytes), api.OK
}

func (w *Writer) none() bool { return w == nil || w.tape == nil }

// number lays a number behind what was written, and gives up at one below 0.
func (w *Writer) number(n int) {
	if n < 0 {
		w.fail(api.ErrRange, w.at)
	}
	for ; n >= more; n >>= sevens {
		w.bytes = append(w.bytes, byte(n%more+more))
	}
	w.bytes = append(w.bytes, byte(n))
}
