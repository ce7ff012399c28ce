package word_test

import (
	"bytes"
	"math"
	"testing"

	"retcon/api"
	"retcon/word"
)

// chance is a row of numbers that look like chance and are the same each time.
type chance uint64

func (c *chance) next(below int) int {
	*c = *c*6364136223846793005 + 1442695040888963407
	return int(uint64(*c>>33) % uint64(below))
}

// number is one of any size.
func (c *chance) number() int {
	n := 0
	for range 3 {
		n = n<<21 | c.next(1<<21)
	}
	return n >> c.next(63)
}

func (c *chance) bytes(n int) []byte {
	b := make([]byte, n)
	for i := range b {
		b[i] = byte(c.next(256))
	}
	return b
}

// numberAt finds what stands at a place as a number, sentence by sentence as the document says it.
func numberAt(b []byte, at int) (n, end int, f api.Fault) {
	for i := 0; ; i++ {
		if at+i >= len(b) {
			return 0, at, api.Fault{Err: api.ErrBytes, At: len(b)}
		}
		if i == 8 && b[at+i] >= 128 {
			return 0, at, api.Fault{Err: api.ErrRange, At: at}
		}
		if b[at+i] >= 128 {
			continue
		}
		if b[at+i] == 0 && i > 0 {
			return 0, at, api.Fault{Err: api.ErrBytes, At: at}
		}
		for j := i; j >= 0; j-- {
			n = n*128 + int(b[at+j])%128
		}
		return n, at + i + 1, api.Fault{}
	}
}

// readAndWrite reads bytes thing by thing, the numbers held against numberAt, and tells what was passed over and what that is written as.
func readAndWrite(t *testing.T, b []byte, kinds *chance) (over, again []byte) {
	t.Helper()
	r, w := word.Open(b), word.New()
	for r.Left() > 0 {
		at := r.At()
		n, end, f := numberAt(b, at)
		switch kinds.next(4) {
		case 0:
			if got := r.Int(0, math.MaxInt); got != n || r.At() != end || r.Fault() != f {
				t.Fatalf("%v: Int at %d: %d, at %d, %v; want %d, at %d, %v", b, at, got, r.At(), r.Fault(), n, end, f)
			} else if r.Fault().Err == api.OK {
				w.Int(got)
			}
		case 1:
			if got := r.Count(math.MaxInt); got != n || r.At() != end || r.Fault() != f {
				t.Fatalf("%v: Count at %d: %d, at %d, %v; want %d, at %d, %v", b, at, got, r.At(), r.Fault(), n, end, f)
			} else if r.Fault().Err == api.OK {
				w.Int(got)
			}
		case 2:
			if got := r.Text(math.MaxInt); r.Fault().Err == api.OK {
				w.Text(got)
			}
		case 3:
			if got := r.ID(); r.Fault().Err == api.OK {
				w.ID(got)
			}
		}
		if r.Fault().Err != api.OK {
			break
		}
	}
	again, err := w.Out()
	if err != api.OK {
		t.Fatalf("%v: Out: %v", b, err)
	}
	return b[:r.At()], again
}

// P1.5 (P2): whatever is read of any bytes without a fault is written as just the bytes that were passed over: all short rows of the bytes that matter.
func TestReadIsWrittenShort(t *testing.T) {
	letters := []byte{0, 1, 2, 127, 128, 129, 255}
	var kinds chance
	rows := [][]byte{nil}
	for range 5 {
		var longer [][]byte
		for _, row := range rows {
			for _, l := range letters {
				longer = append(longer, append(bytes.Clone(row), l))
			}
		}
		rows = longer
		for _, row := range rows {
			if over, again := readAndWrite(t, row, &kinds); !bytes.Equal(over, again) {
				t.Fatalf("%v: passed over %v, written %v", row, over, again)
			}
		}
	}
}

// P1.5 (P2): the same of numbers of eight to eleven bytes, about the ninth.
func TestReadIsWrittenLong(t *testing.T) {
	var kinds chance
	for _, fill := range []byte{128, 129, 255} {
		for ahead := 6; ahead <= 10; ahead++ {
			for x := range 256 {
				for _, behind := range [][]byte{nil, {0}, {1}, {128}} {
					row := append(many(ahead, fill, byte(x)), behind...)
					if over, again := readAndWrite(t, row, &kinds); !bytes.Equal(over, again) {
						t.Fatalf("%v: passed over %v, written %v", row, over, again)
					}
				}
			}
		}
	}
}

// P1.5 (P2): the same of any bytes, some of them long enough for IDs.
func TestReadIsWrittenAny(t *testing.T) {
	var c chance
	for range 20000 {
		b := c.bytes(c.next(120))
		if over, again := readAndWrite(t, b, &c); !bytes.Equal(over, again) {
			t.Fatalf("%v: passed over %v, written %v", b, over, again)
		}
	}
}

// A thing is a number, a text, or an ID that is written, and how many bytes that makes.
type thing struct {
	told any
	do   call
	size int
}

// writeAny writes something, and tells what is to be read.
func writeAny(w *word.Writer, c *chance) thing {
	n := c.number()
	switch c.next(4) {
	case 0:
		w.Int(n)
		return thing{n, readInt(n, n), word.Size(n)}
	case 1:
		w.Int(n)
		return thing{n, readCount(n), word.Size(n)}
	case 2:
		s := string(c.bytes(c.next(300)))
		w.Text(s)
		return thing{s, readText(len(s)), word.Size(len(s)) + len(s)}
	default:
		id := api.ID(c.bytes(32))
		w.ID(id)
		return thing{id, readID(), 32}
	}
}

// P1.5 (P2): whatever is written is read, in the order in which it was, up to the end; sizes come to how much is written.
func TestWrittenIsRead(t *testing.T) {
	var c chance
	for range 500 {
		w := word.New()
		var things []thing
		total := 0
		for range c.next(60) {
			x := writeAny(w, &c)
			things, total = append(things, x), total+x.size
		}
		b, err := w.Out()
		if err != api.OK || len(b) != total {
			t.Fatalf("Out: %v, %d bytes, want %d", err, len(b), total)
		}
		r := word.Open(b)
		for i, x := range things {
			at := r.At()
			if told := x.do(r); told != x.told || r.At() != at+x.size {
				t.Fatalf("thing %d: %v, want %v; at %d, want %d", i, told, x.told, r.At(), at+x.size)
			}
		}
		if r.End() != (api.Fault{}) || r.Left() != 0 {
			t.Fatalf("End: %v, left %d", r.End(), r.Left())
		}
	}
}

// P1 (calm): the same calls, the same answers; none of them panics at the utmost arguments.
func TestSameCallsSameAnswers(t *testing.T) {
	utmost := []int{math.MinInt, math.MinInt + 1, -1, 0, 1, 127, 128, math.MaxInt - 1, math.MaxInt}
	all := func() (told []any) {
		for _, low := range utmost {
			told = append(told, word.Size(low))
			for _, high := range utmost {
				for _, b := range [][]byte{nil, {0}, {128}, {255, 1, 3}, many(8, 255, 127), many(40, 128), many(40, 1)} {
					r := word.Open(b)
					told = append(told, r.Int(low, high), r.Count(high), r.Text(low), r.ID(), r.Text(high), r.At(), r.Left(), r.Fault(), r.End())
				}
			}
		}
		return told
	}
	a, b := all(), all()
	if len(a) != len(b) {
		t.Fatal(len(a), len(b))
	}
	for i := range a {
		if a[i] != b[i] {
			t.Fatalf("%d: %v, %v", i, a[i], b[i])
		}
	}
}
