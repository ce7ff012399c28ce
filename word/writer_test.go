package word_test

import (
	"bytes"
	"math"
	"strings"
	"testing"

	"retcon/api"
	"retcon/word"
)

// written tells what a new writer has written behind some calls.
func written(t *testing.T, calls ...func(w *word.Writer)) []byte {
	t.Helper()
	w := word.New()
	for _, call := range calls {
		call(w)
	}
	b, err := w.Out()
	if err != api.OK {
		t.Fatalf("Out: %v", err)
	}
	return b
}

func writeInt(n int) func(w *word.Writer)     { return func(w *word.Writer) { w.Int(n) } }
func writeText(s string) func(w *word.Writer) { return func(w *word.Writer) { w.Text(s) } }
func writeID(id api.ID) func(w *word.Writer)  { return func(w *word.Writer) { w.ID(id) } }

// sevensOf is a number's bytes as the document says them, by division alone.
func sevensOf(n int) []byte {
	var b []byte
	for n/128 > 0 {
		b = append(b, byte(n%128)+128)
		n /= 128
	}
	return append(b, byte(n))
}

// edgeNumbers are the numbers beside which one more byte is needed, and some between.
func edgeNumbers() []int {
	l := []int{0, 1, 2, 5, 100, 300, 999999, math.MaxInt - 1, math.MaxInt}
	for bits := 7; bits < 63; bits += 7 {
		l = append(l, 1<<bits-2, 1<<bits-1, 1<<bits, 1<<bits+1)
	}
	return l
}

func countUp() api.ID {
	var id api.ID
	for i := range id {
		id[i] = byte(i + 200)
	}
	return id
}

// noWriters are writers that no function of the package made.
func noWriters() []*word.Writer { return []*word.Writer{nil, {}, new(word.Writer)} }

// P1.1: the document's examples.
func TestIntExamples(t *testing.T) {
	for _, x := range []struct {
		n    int
		want []byte
	}{
		{0, []byte{0}},
		{127, []byte{127}},
		{128, []byte{128, 1}},
		{129, []byte{129, 1}},
		{16383, []byte{255, 127}},
		{16384, []byte{128, 128, 1}},
		{1 << 56, []byte{128, 128, 128, 128, 128, 128, 128, 128, 1}},
		{1<<63 - 1, []byte{255, 255, 255, 255, 255, 255, 255, 255, 127}},
	} {
		if b := written(t, writeInt(x.n)); !bytes.Equal(b, x.want) {
			t.Errorf("Int(%d): %v, want %v", x.n, b, x.want)
		}
	}
}

// P1.1: numbers by sevens, and how many bytes that makes.
func TestIntBySevens(t *testing.T) {
	for _, n := range edgeNumbers() {
		b := written(t, writeInt(n))
		if !bytes.Equal(b, sevensOf(n)) {
			t.Errorf("Int(%d): %v, want %v", n, b, sevensOf(n))
		}
		if word.Size(n) != len(b) {
			t.Errorf("Size(%d): %d, want %d", n, word.Size(n), len(b))
		}
	}
}

// P1.1: Size at its edges, and of what is no number.
func TestSize(t *testing.T) {
	for _, x := range []struct{ n, want int }{
		{math.MinInt, 0}, {-128, 0}, {-1, 0}, {0, 1}, {1, 1}, {127, 1}, {128, 2}, {16383, 2}, {16384, 3},
		{1<<56 - 1, 8}, {1 << 56, 9}, {1 << 62, 9}, {math.MaxInt, 9},
	} {
		if got := word.Size(x.n); got != x.want {
			t.Errorf("Size(%d): %d, want %d", x.n, got, x.want)
		}
	}
}

// P1.1: a text is its length and its bytes, whatever they are.
func TestTextBytes(t *testing.T) {
	for _, s := range []string{"", "ab", "\x00", "\xff\xfe\x80", "Grüße", strings.Repeat("x", 127), strings.Repeat("y", 128), strings.Repeat("z", 20000)} {
		want := append(sevensOf(len(s)), s...)
		if b := written(t, writeText(s)); !bytes.Equal(b, want) {
			t.Errorf("Text of %d bytes: %v, want %v", len(s), b, want)
		}
	}
}

// P1.1: an ID is its thirty-two bytes, and no length.
func TestIDBytes(t *testing.T) {
	id := countUp()
	if b := written(t, writeID(id)); !bytes.Equal(b, id[:]) {
		t.Errorf("ID: %v, want %v", b, id)
	}
}

// P1.1: each thing stands behind those ahead; Out tells all, and ends nothing.
func TestWritesBehind(t *testing.T) {
	w := word.New()
	if b, err := w.Out(); len(b) != 0 || err != api.OK {
		t.Errorf("Out of a new writer: %v, %v", b, err)
	}
	id := countUp()
	w.Int(128)
	w.Text("ab")
	half, err := w.Out()
	if !bytes.Equal(half, []byte{128, 1, 2, 97, 98}) || err != api.OK {
		t.Errorf("Out: %v, %v", half, err)
	}
	w.ID(id)
	w.Int(0)
	want := append(append([]byte{128, 1, 2, 97, 98}, id[:]...), 0)
	for range 2 {
		if b, err := w.Out(); !bytes.Equal(b, want) || err != api.OK {
			t.Errorf("Out: %v, %v, want %v", b, err, want)
		}
	}
}

// P1.1: one number below 0 is told by every Out from then on, wherever it stood.
func TestNumberBelowNought(t *testing.T) {
	for _, n := range []int{-1, -128, math.MinInt} {
		for place := range 4 {
			w := word.New()
			for i := range 4 {
				if i == place {
					w.Int(n)
				}
				w.Int(i)
				w.Text("a")
				w.ID(api.ID{})
			}
			for range 2 {
				if b, err := w.Out(); len(b) != 0 || err != api.ErrRange {
					t.Errorf("Int(%d) at %d: %v, %v", n, place, b, err)
				}
			}
		}
	}
}

// P1.1, P1: a writer that is none writes nothing, and is none still.
func TestNoWriter(t *testing.T) {
	for i, w := range noWriters() {
		for _, n := range []int{math.MinInt, -1, 0, math.MaxInt} {
			w.Int(n)
			w.Text("a")
			w.ID(countUp())
			if b, err := w.Out(); len(b) != 0 || err != api.ErrNil {
				t.Errorf("%d: %v, %v", i, b, err)
			}
		}
	}
}

// P1 (DOC.md, rule 4): what Out answered is not the writer's, nor is its spare room.
func TestOutIsNew(t *testing.T) {
	w := word.New()
	for n := range 100 {
		w.Int(n)
		b, _ := w.Out()
		full := b[:cap(b)]
		for i := range full {
			full[i] = 77
		}
	}
	b, err := w.Out()
	if len(b) != 100 || err != api.OK {
		t.Fatalf("Out: %v, %v", b, err)
	}
	for i := range b {
		if int(b[i]) != i {
			t.Fatalf("Out: %v", b)
		}
	}
}

// P1: writers side by side do not touch one another, faults neither.
func TestWritersApart(t *testing.T) {
	a, b, c := word.New(), word.New(), word.New()
	for i := range 50 {
		a.Int(i)
		b.Int(99 - i)
		c.Int(-1)
	}
	x, _ := a.Out()
	y, _ := b.Out()
	if len(x) != 50 || len(y) != 50 {
		t.Fatalf("%v, %v", x, y)
	}
	for i := range 50 {
		if int(x[i]) != i || int(y[i]) != 99-i {
			t.Fatalf("%v, %v", x, y)
		}
	}
}
