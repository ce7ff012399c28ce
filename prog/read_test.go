package prog_test

import (
	"bytes"
	"slices"
	"strings"
	"testing"

	"retcon/api"
	"retcon/code"
	"retcon/prog"
	"retcon/word"
)

// readAll reads a transaction, sentence by sentence as the document says it.
func readAll(b []byte) ([]api.Instr, api.Fault) {
	if len(b) > 512 {
		return nil, api.Fault{Err: api.ErrLong, At: 512}
	}
	r := word.Open(b)
	count := r.Count(60)
	if r.Fault().Err != api.OK {
		return nil, r.Fault()
	}
	var l []api.Instr
	var begins []int
	at := r.At()
	for range count {
		i, end, f := code.Read(b, at)
		if f.Err != api.OK {
			return nil, f
		}
		l, begins, at = append(l, i), append(begins, at), end
	}
	if at != len(b) {
		return nil, api.Fault{Err: api.ErrBytes, At: at}
	}
	for n, i := range l {
		if (i.Op == 12 || i.Op == 13) && i.N > len(l[n+1:]) {
			return nil, api.Fault{Err: api.ErrRange, At: begins[n]}
		}
	}
	return l, api.Fault{}
}

// P6.2, and P6.3 (P2): what is read is as the document says, and is told as the bytes that it was read from.
func holdRead(t *testing.T, b []byte) {
	t.Helper()
	l, f := prog.Read(b)
	want, wf := readAll(b)
	if !slices.Equal(l, want) || f != wf {
		t.Fatalf("Read(%v): %+v, %v; want %+v, %v", b, l, f, want, wf)
	}
	if f.Err != api.OK {
		return
	}
	if again, err := prog.Bytes(l); !bytes.Equal(again, b) || err != api.OK {
		t.Fatalf("Read(%v): %+v, told as %v, %v", b, l, again, err)
	}
}

// row is bytes, and texts and lists of them, one behind the other.
func row(parts ...any) []byte {
	var b []byte
	for _, p := range parts {
		switch x := p.(type) {
		case int:
			b = append(b, byte(x))
		case string:
			b = append(b, x...)
		case []byte:
			b = append(b, x...)
		}
	}
	return b
}

// P6.2: the examples of the document, the edges of each sentence, and which of two faults comes first.
func TestRead(t *testing.T) {
	set := row(1, 5, 64, strings.Repeat("\xff", 64))
	sets := bytes.Repeat(set, 7)
	for n, x := range []struct {
		b []byte
		l []api.Instr
		f api.Fault
	}{
		{row(2, 13, 1, 15), list(jump(1), halt()), api.Fault{}},
		{row(1, 13, 1), nil, api.Fault{Err: api.ErrRange, At: 1}},
		{row(1, 15, 0), nil, api.Fault{Err: api.ErrBytes, At: 2}},
		{row(61), nil, api.Fault{Err: api.ErrLong, At: 0}},

		{nil, nil, api.Fault{Err: api.ErrBytes, At: 0}},
		{row(0), nil, api.Fault{}},
		{row(0, 0), nil, api.Fault{Err: api.ErrBytes, At: 1}},
		{row(128), nil, api.Fault{Err: api.ErrBytes, At: 1}},
		{row(128, 0), nil, api.Fault{Err: api.ErrBytes, At: 0}},
		{row(129, 0, 15), nil, api.Fault{Err: api.ErrBytes, At: 0}},
		{row(128, 1), nil, api.Fault{Err: api.ErrLong, At: 0}},
		{bytes.Repeat(row(128), 9), nil, api.Fault{Err: api.ErrRange, At: 0}},
		{row(60, strings.Repeat("\x0f", 60)), many(60, halt()), api.Fault{}},
		{row(60, strings.Repeat("\x0f", 61)), nil, api.Fault{Err: api.ErrBytes, At: 61}},
		{row(60, strings.Repeat("\x0f", 59)), nil, api.Fault{Err: api.ErrBytes, At: 60}},
		{row(61, strings.Repeat("\x0f", 61)), nil, api.Fault{Err: api.ErrLong, At: 0}},

		{make([]byte, 513), nil, api.Fault{Err: api.ErrLong, At: 512}},
		{make([]byte, 100000), nil, api.Fault{Err: api.ErrLong, At: 512}},
		{bytes.Repeat(row(255), 513), nil, api.Fault{Err: api.ErrLong, At: 512}},
		{make([]byte, 512), nil, api.Fault{Err: api.ErrBytes, At: 1}},
		{row(8, sets, 1, 5, 39, strings.Repeat("\xff", 39)), size512(), api.Fault{}},
		{row(8, sets, 1, 5, 40, strings.Repeat("\xff", 40)), nil, api.Fault{Err: api.ErrLong, At: 512}},
		{row(8, sets, 1, 5, 40, strings.Repeat("\xff", 39)), nil, api.Fault{Err: api.ErrBytes, At: 512}},
		{row(9, sets, 1, 5, 39, strings.Repeat("\xff", 39)), nil, api.Fault{Err: api.ErrBytes, At: 512}},
		{row(9, sets, 1, 5, 38, strings.Repeat("\xff", 38), 15), list(many(7, text(64)), text(38), halt()), api.Fault{}},

		{row(1), nil, api.Fault{Err: api.ErrBytes, At: 1}},
		{row(2, 15), nil, api.Fault{Err: api.ErrBytes, At: 2}},
		{row(2, 15, 0), nil, api.Fault{Err: api.ErrRange, At: 2}},
		{row(2, 15, 16), nil, api.Fault{Err: api.ErrRange, At: 2}},
		{row(2, 15, 2, 1), nil, api.Fault{Err: api.ErrBytes, At: 4}},
		{row(2, 15, 2, 1, 8), nil, api.Fault{Err: api.ErrRange, At: 4}},
		{row(2, 15, 1, 0, 65, set), nil, api.Fault{Err: api.ErrLong, At: 4}},
		{row(2, 15, 143, 0), nil, api.Fault{Err: api.ErrBytes, At: 2}},
		{row(2, 13, 61, 15), nil, api.Fault{Err: api.ErrRange, At: 2}},
		{row(2, 13, 0, 15), nil, api.Fault{Err: api.ErrRange, At: 2}},

		{row(3, 15, 13, 2, 15), nil, api.Fault{Err: api.ErrRange, At: 2}},
		{row(3, 15, 12, 0, 2, 15), nil, api.Fault{Err: api.ErrRange, At: 2}},
		{row(3, 15, 12, 0, 1, 15), list(halt(), api.Instr{Op: api.OpSkip, N: 1}, halt()), api.Fault{}},
		{row(3, 12, 0, 2, 13, 1, 13, 1), nil, api.Fault{Err: api.ErrRange, At: 6}},
		{row(3, 12, 0, 3, 13, 2, 13, 1), nil, api.Fault{Err: api.ErrRange, At: 1}},
		{row(60, 13, 59, strings.Repeat("\x0f", 59)), list(jump(59), many(59, halt())), api.Fault{}},
		{row(60, 13, 60, strings.Repeat("\x0f", 59)), nil, api.Fault{Err: api.ErrRange, At: 1}},
		{row(60, strings.Repeat("\x0f", 59), 13, 1), nil, api.Fault{Err: api.ErrRange, At: 60}},
		{row(1, 6, 1, 2, 3, 16), list(scan(16)), api.Fault{}},
		{row(1, 13, 1, 15), nil, api.Fault{Err: api.ErrBytes, At: 3}},
		{row(2, 13, 60, 16), nil, api.Fault{Err: api.ErrRange, At: 3}},
		{row(2, 13, 60), nil, api.Fault{Err: api.ErrBytes, At: 3}},
	} {
		if l, f := prog.Read(x.b); !slices.Equal(l, x.l) || f != x.f {
			t.Errorf("%d: Read(%v): %+v, %v; want %+v, %v", n, x.b, l, f, x.l, x.f)
		}
		holdRead(t, x.b)
	}
}

// P6.2, P6.3: all short rows of the bytes that matter.
func TestReadShort(t *testing.T) {
	letters := []byte{0, 1, 2, 3, 7, 12, 13, 15, 16, 60, 61, 128, 141}
	rows := [][]byte{nil}
	for range 6 {
		var longer [][]byte
		for _, b := range rows {
			holdRead(t, b)
			for _, l := range letters {
				longer = append(longer, append(bytes.Clone(b), l))
			}
		}
		rows = longer
	}
}

// P6.2: what is written, with each byte in turn another one, gone, or doubled, and cut off anywhere.
func TestReadSpoilt(t *testing.T) {
	for _, l := range [][]api.Instr{
		nil,
		list(jump(2), text(2), skip(1), scan(16)),
		list(skip(60-1), many(59, halt())),
		size512(),
	} {
		b, err := prog.Bytes(l)
		if err != api.OK {
			t.Fatal(err)
		}
		for n := range b {
			holdRead(t, b[:n])
			holdRead(t, slices.Delete(bytes.Clone(b), n, n+1))
			holdRead(t, slices.Insert(bytes.Clone(b), n, b[n]))
			for x := range 256 {
				other := bytes.Clone(b)
				other[n] = byte(x)
				holdRead(t, other)
			}
		}
		for x := range 256 {
			holdRead(t, append(bytes.Clone(b), byte(x)))
		}
	}
}
