package word

import (
	"slices"

	"retcon/api"
)

// Reader reads bytes. Open makes it.
type Reader struct{ *tape }

// Open begins to read.
func Open(b []byte) *Reader { return &Reader{&tape{bytes: slices.Clone(b)}} }

// Int reads a number from low to high.
func (r *Reader) Int(low, high int) int {
	if r.none() {
		return 0
	}
	told := 0
	r.do(func() int {
		n, end := r.number()
		if n < low || n > high {
			r.fail(api.ErrRange, r.at)
		}
		told = n
		return end
	})
	return told
}

// Count reads a number that is at most most.
func (r *Reader) Count(most int) int {
	if r.none() {
		return 0
	}
	told := 0
	r.do(func() int {
		n, end := r.count(most)
		told = n
		return end
	})
	return told
}

// Text reads a text of at most so many bytes.
func (r *Reader) Text(most int) string {
	if r.none() {
		return ""
	}
	told := ""
	r.do(func() int {
		n, from := r.count(most)
		end := r.behind(from, n)
		told = string(r.bytes[from:end])
		return end
	})
	return told
}

// ID reads an ID.
func (r *Reader) ID() api.ID {
	if r.none() {
		return api.ID{}
	}
	told := api.ID{}
	r.do(func() int {
		end := r.behind(r.at, len(told))
		copy(told[:], r.bytes[r.at:end])
		return end
	})
	return told
}

// At tells the place.
func (r *Reader) At() int {
	if r.none() {
		return 0
	}
	return r.at
}

// Left tells how many bytes are behind the place.
func (r *Reader) Left() int {
	if r.none() {
		return 0
	}
	return len(r.bytes) - r.at
}

// Fault tells the fault.
func (r *Reader) Fault() api.Fault {
	if r.none() {
		return api.Fault{Err: api.ErrNil}
	}
	return r.fault
}

// End tells the fault, or that bytes are left: that is told alone, and more may be read behind it.
func (r *Reader) End() api.Fault {
	f := r.Fault()
	if f.Err == api.OK && r.Left() > 0 {
		return api.Fault{Err: api.ErrBytes, At: r.at}
	}
	return f
}

func (r *Reader) none() bool { return r == nil || r.tape == nil }

// number tells the number at the place, and where it ends; it gives up where there is none.
func (r *Reader) number() (n, end int) {
	for i := 0; ; i++ {
		end = r.behind(r.at+i, 1)
		b := r.bytes[end-1]
		if b >= more && i+1 == longest {
			r.fail(api.ErrRange, r.at)
		}
		if b == 0 && i > 0 {
			r.fail(api.ErrBytes, r.at)
		}
		n |= int(b%more) << (sevens * i)
		if b < more {
			return n, end
		}
	}
}

// count tells the number at the place, and where it ends; it gives up at one that is more than most.
func (r *Reader) count(most int) (n, end int) {
	n, end = r.number()
	if n > most {
		r.fail(api.ErrLong, r.at)
	}
	return n, end
}

// behind tells where n bytes end, from a place on; it gives up if they are not all there.
func (r *Reader) behind(from, n int) int {
	if n > len(r.bytes)-from {
		r.fail(api.ErrBytes, len(r.bytes))
	}
	return from + n
}
