package code_test

import (
	"bytes"
	"math"
	"slices"
	"strings"
	"testing"

	"retcon/api"
	"retcon/code"
	"retcon/word"
)

// readAll reads by word's reader, opened on all bytes and brought to the place byte by byte, as the document says it.
func readAll(b []byte, at int) (api.Instr, int, api.Fault) {
	if at < 0 || at > len(b) {
		return api.Instr{}, 0, api.Fault{Err: api.ErrRange}
	}
	// Bytes ahead of the place may be anything: 0 stands for each, a number of one byte.
	r := word.Open(slices.Concat(make([]byte, at), b[at:]))
	for range at {
		r.Int(0, 0)
	}
	i := api.Instr{Op: r.Int(1, 15)}
	if r.Fault() == (api.Fault{}) {
		f := forms()[i.Op-1]
		if f.a {
			i.A = r.Int(0, 7)
		}
		if f.b {
			i.B = r.Int(0, 7)
		}
		if f.c {
			i.C = r.Int(0, 7)
		}
		if f.most > 0 {
			i.N = r.Int(1, f.most)
		}
		if f.s {
			i.S = r.Text(64)
		}
	}
	if r.Fault() != (api.Fault{}) {
		return api.Instr{}, 0, r.Fault()
	}
	return i, r.At(), api.Fault{}
}

// P5.2, and P5.3 (P2): what is read is as the document says, and is told as the bytes that it was read from.
func holdRead(t *testing.T, b []byte, at int) {
	t.Helper()
	i, end, f := code.Read(b, at)
	if wi, wend, wf := readAll(b, at); i != wi || end != wend || f != wf {
		t.Fatalf("Read(%v, %d): %+v, %d, %v; want %+v, %d, %v", b, at, i, end, f, wi, wend, wf)
	}
	if f.Err != api.OK {
		return
	}
	if again, err := code.Bytes(i); !bytes.Equal(again, b[at:end]) || err != api.OK || code.Size(i) != end-at {
		t.Fatalf("Read(%v, %d): %+v up to %d, told as %v, %v", b, at, i, end, again, err)
	}
}

// P5.2: the examples of the document, and the edges of each thing.
func TestRead(t *testing.T) {
	long := strings.Repeat("x", 64)
	for _, x := range []struct {
		b   []byte
		at  int
		i   api.Instr
		end int
		f   api.Fault
	}{
		{[]byte{9, 2, 1, 2}, 1, api.Instr{Op: api.OpMov, A: 1, B: 2}, 4, api.Fault{}},
		{[]byte{16}, 0, api.Instr{}, 0, api.Fault{Err: api.ErrRange, At: 0}},
		{[]byte{2, 8}, 0, api.Instr{}, 0, api.Fault{Err: api.ErrRange, At: 1}},
		{[]byte{2, 1}, 0, api.Instr{}, 0, api.Fault{Err: api.ErrBytes, At: 2}},
		{[]byte{15}, 2, api.Instr{}, 0, api.Fault{Err: api.ErrRange, At: 0}},

		{[]byte{15}, -1, api.Instr{}, 0, api.Fault{Err: api.ErrRange, At: 0}},
		{[]byte{15}, math.MaxInt, api.Instr{}, 0, api.Fault{Err: api.ErrRange, At: 0}},
		{[]byte{15}, math.MinInt, api.Instr{}, 0, api.Fault{Err: api.ErrRange, At: 0}},
		{nil, 1, api.Instr{}, 0, api.Fault{Err: api.ErrRange, At: 0}},
		{nil, 0, api.Instr{}, 0, api.Fault{Err: api.ErrBytes, At: 0}},
		{[]byte{15}, 1, api.Instr{}, 0, api.Fault{Err: api.ErrBytes, At: 1}},
		{[]byte{15, 15, 15}, 1, api.Instr{Op: api.OpHalt}, 2, api.Fault{}},
		{[]byte{7, 0}, 1, api.Instr{}, 0, api.Fault{Err: api.ErrRange, At: 1}},
		{[]byte{7, 16}, 1, api.Instr{}, 0, api.Fault{Err: api.ErrRange, At: 1}},
		{[]byte{7, 143, 1}, 1, api.Instr{}, 0, api.Fault{Err: api.ErrRange, At: 1}},
		{[]byte{7, 143, 0}, 1, api.Instr{}, 0, api.Fault{Err: api.ErrBytes, At: 1}},
		{[]byte{7, 143}, 1, api.Instr{}, 0, api.Fault{Err: api.ErrBytes, At: 2}},
		{[]byte{0, 3, 7, 7, 7, 9}, 1, api.Instr{Op: api.OpGet, A: 7, B: 7, C: 7}, 5, api.Fault{}},
		{[]byte{0, 3, 8, 9, 9}, 1, api.Instr{}, 0, api.Fault{Err: api.ErrRange, At: 2}},
		{[]byte{0, 3, 7, 8, 9}, 1, api.Instr{}, 0, api.Fault{Err: api.ErrRange, At: 3}},
		{[]byte{0, 3, 7, 7, 8}, 1, api.Instr{}, 0, api.Fault{Err: api.ErrRange, At: 4}},
		{[]byte{0, 3, 7, 7}, 1, api.Instr{}, 0, api.Fault{Err: api.ErrBytes, At: 4}},
		{[]byte{0, 3, 7, 135, 0}, 1, api.Instr{}, 0, api.Fault{Err: api.ErrBytes, At: 3}},
		{[]byte{6, 0, 1, 2, 16}, 0, api.Instr{Op: api.OpScan, B: 1, C: 2, N: 16}, 5, api.Fault{}},
		{[]byte{6, 0, 1, 2, 17}, 0, api.Instr{}, 0, api.Fault{Err: api.ErrRange, At: 4}},
		{[]byte{6, 0, 1, 2, 0}, 0, api.Instr{}, 0, api.Fault{Err: api.ErrRange, At: 4}},
		{[]byte{12, 7, 60, 1}, 0, api.Instr{Op: api.OpSkip, A: 7, N: 60}, 3, api.Fault{}},
		{[]byte{12, 7, 61}, 0, api.Instr{}, 0, api.Fault{Err: api.ErrRange, At: 2}},
		{[]byte{13, 1}, 0, api.Instr{Op: api.OpJump, N: 1}, 2, api.Fault{}},
		{[]byte{13, 0}, 0, api.Instr{}, 0, api.Fault{Err: api.ErrRange, At: 1}},
		{[]byte{13, 61}, 0, api.Instr{}, 0, api.Fault{Err: api.ErrRange, At: 1}},
		{[]byte{13}, 0, api.Instr{}, 0, api.Fault{Err: api.ErrBytes, At: 1}},
		{[]byte{5, 1, 0}, 1, api.Instr{}, 0, api.Fault{Err: api.ErrBytes, At: 3}},
		{[]byte{1, 1, 0}, 0, api.Instr{Op: api.OpSet, A: 1}, 3, api.Fault{}},
		{[]byte{1, 1, 3, 0, 255, 128, 9}, 0, api.Instr{Op: api.OpSet, A: 1, S: "\x00\xff\x80"}, 6, api.Fault{}},
		{[]byte{1, 1, 3, 0, 255}, 0, api.Instr{}, 0, api.Fault{Err: api.ErrBytes, At: 5}},
		{append([]byte{1, 7, 64}, long...), 0, api.Instr{Op: api.OpSet, A: 7, S: long}, 67, api.Fault{}},
		{append([]byte{1, 7, 64}, long[1:]...), 0, api.Instr{}, 0, api.Fault{Err: api.ErrBytes, At: 66}},
		{append([]byte{1, 7, 65}, long+long...), 0, api.Instr{}, 0, api.Fault{Err: api.ErrLong, At: 2}},
		{append([]byte{1, 7, 192, 1}, long...), 0, api.Instr{}, 0, api.Fault{Err: api.ErrLong, At: 2}},
		{append([]byte{1, 7, 192, 0}, long...), 0, api.Instr{}, 0, api.Fault{Err: api.ErrBytes, At: 2}},
		{append([]byte{1, 8, 65}, long...), 0, api.Instr{}, 0, api.Fault{Err: api.ErrRange, At: 1}},
	} {
		if i, end, f := code.Read(x.b, x.at); i != x.i || end != x.end || f != x.f {
			t.Errorf("Read(%v, %d): %+v, %d, %v; want %+v, %d, %v", x.b, x.at, i, end, f, x.i, x.end, x.f)
		}
		holdRead(t, x.b, x.at)
	}
}

// P5.2, P5.3: all short rows of the bytes that matter, at each place and about both ends.
func TestReadShort(t *testing.T) {
	letters := []byte{0, 1, 2, 3, 6, 7, 8, 12, 13, 15, 16, 17, 60, 61, 64, 65, 128, 135}
	rows := [][]byte{nil}
	for size := range 5 {
		for _, row := range rows {
			for at := -1; at <= min(1, size)+1; at++ {
				holdRead(t, row, at)
			}
		}
		if size < 4 {
			rows = longer(rows, letters)
		}
	}
}

// longer is each row with each letter behind it.
func longer(rows [][]byte, letters []byte) [][]byte {
	var told [][]byte
	for _, row := range rows {
		for _, l := range letters {
			told = append(told, append(bytes.Clone(row), l))
		}
	}
	return told
}

// P5.2, P5.3: numbers of many bytes in the place of each thing, with bytes behind them or cut off.
func TestReadLongNumbers(t *testing.T) {
	for _, f := range forms() {
		plain := written(api.Instr{Op: f.op, N: min(1, f.most)})
		for place := range plain {
			for _, fill := range []byte{128, 129, 255} {
				for n := range 12 {
					for _, last := range []byte{0, 1, 127} {
						number := append(bytes.Repeat([]byte{fill}, n), last)
						b := slices.Concat([]byte{200, 3}, plain[:place], number, plain[place+1:])
						for cut := 2; cut <= len(b); cut++ {
							holdRead(t, b[:cut], 2)
						}
						holdRead(t, append(b, make([]byte, 100)...), 2)
					}
				}
			}
		}
	}
}

// P5.2: texts of all lengths, with more or fewer bytes behind them.
func TestReadTexts(t *testing.T) {
	for n := range 130 {
		for have := range 140 {
			b := append(numberBytes(n), bytes.Repeat([]byte{'x'}, have)...)
			holdRead(t, append([]byte{1, 7}, b...), 0)
			holdRead(t, append([]byte{9, 9, 1, 7}, b...), 2)
		}
	}
}

// numberBytes is a number as bytes.
func numberBytes(n int) []byte {
	w := word.New()
	w.Int(n)
	b, _ := w.Out()
	return b
}
