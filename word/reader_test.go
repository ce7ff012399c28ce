package word_test

import (
	"bytes"
	"math"
	"slices"
	"strings"
	"testing"

	"retcon/api"
	"retcon/word"
)

// A call reads one thing, whatever it is.
type call func(r *word.Reader) any

func readInt(low, high int) call { return func(r *word.Reader) any { return r.Int(low, high) } }
func readCount(most int) call    { return func(r *word.Reader) any { return r.Count(most) } }
func readText(most int) call     { return func(r *word.Reader) any { return r.Text(most) } }
func readID() call               { return func(r *word.Reader) any { return r.ID() } }

// many is n bytes of one kind, and some behind.
func many(n int, b byte, behind ...byte) []byte {
	return append(bytes.Repeat([]byte{b}, n), behind...)
}

// noReaders are readers that no function of the package made.
func noReaders() []*word.Reader { return []*word.Reader{nil, {}, new(word.Reader)} }

// A reading is what a call answers of some bytes: what is told, how many bytes are passed over, or the fault.
type reading struct {
	name string
	b    []byte
	do   call
	told any
	over int
	err  api.Errno
	at   int
}

// try holds a reading against what is answered, behind none and behind some bytes that were read already.
func (x reading) try(t *testing.T) {
	t.Helper()
	for _, ahead := range [][]byte{nil, {5, 128, 1}} {
		r := word.Open(slices.Concat(ahead, x.b))
		for r.At() < len(ahead) {
			r.Int(0, 200)
		}
		told := x.do(r)
		want := api.Fault{Err: x.err}
		if x.err != api.OK {
			want.At = len(ahead) + x.at
		}
		place := len(ahead) + x.over
		if told != x.told || r.Fault() != want || r.At() != place || r.Left() != len(ahead)+len(x.b)-place {
			t.Errorf("%s behind %d bytes: %v, at %d, left %d, fault %v; want %v, at %d, fault %v", x.name, len(ahead), told, r.At(), r.Left(), r.Fault(), x.told, place, want)
		}
	}
}

// P1.2: a number, its bounds, and what is none.
func TestReadInt(t *testing.T) {
	all := readInt(math.MinInt, math.MaxInt)
	for _, x := range []reading{
		{"0", []byte{0}, all, 0, 1, api.OK, 0},
		{"127", []byte{127}, all, 127, 1, api.OK, 0},
		{"128, and one behind", []byte{128, 1, 5}, all, 128, 2, api.OK, 0},
		{"16384", []byte{128, 128, 1}, all, 16384, 3, api.OK, 0},
		{"0, and 0 behind", []byte{0, 0}, all, 0, 1, api.OK, 0},
		{"the greatest", many(8, 255, 127), all, math.MaxInt, 9, api.OK, 0},
		{"the greatest, bounds met just so", many(8, 255, 127), readInt(math.MaxInt, math.MaxInt), math.MaxInt, 9, api.OK, 0},
		{"the greatest, one too many", many(8, 255, 127), readInt(0, math.MaxInt-1), 0, 0, api.ErrRange, 0},
		{"the least of nine bytes", many(8, 128, 1), all, 1 << 56, 9, api.OK, 0},
		{"high is met", []byte{5}, readInt(0, 5), 5, 1, api.OK, 0},
		{"high is passed", []byte{5}, readInt(0, 4), 0, 0, api.ErrRange, 0},
		{"low is met", []byte{5}, readInt(5, 9), 5, 1, api.OK, 0},
		{"low is not met", []byte{5}, readInt(6, 9), 0, 0, api.ErrRange, 0},
		{"both are met", []byte{5}, readInt(5, 5), 5, 1, api.OK, 0},
		{"low is behind high", []byte{5}, readInt(6, 4), 0, 0, api.ErrRange, 0},
		{"low is behind high, around it", []byte{5}, readInt(5, 4), 0, 0, api.ErrRange, 0},
		{"low below 0", []byte{0}, readInt(-5, 0), 0, 1, api.OK, 0},
		{"both below 0", []byte{0}, readInt(-5, -1), 0, 0, api.ErrRange, 0},
		{"nothing", nil, all, 0, 0, api.ErrBytes, 0},
		{"128 alone", []byte{128}, all, 0, 0, api.ErrBytes, 1},
		{"128 alone, bounds that have none", []byte{128}, readInt(1, 0), 0, 0, api.ErrBytes, 1},
		{"eight bytes, and the ninth is missing", many(8, 255), all, 0, 0, api.ErrBytes, 8},
		{"the ninth is 128", many(9, 128), all, 0, 0, api.ErrRange, 0},
		{"the ninth is 255", many(9, 255), all, 0, 0, api.ErrRange, 0},
		{"the ninth is 128, and more behind", many(9, 128, 128, 1), all, 0, 0, api.ErrRange, 0},
		{"the ninth is 0", many(8, 128, 0), all, 0, 0, api.ErrBytes, 0},
		{"the last one is 0", []byte{128, 0}, all, 0, 0, api.ErrBytes, 0},
		{"the last one of three is 0", []byte{255, 129, 0, 7}, all, 0, 0, api.ErrBytes, 0},
		{"the last one is 0, bounds that have none", []byte{128, 0}, readInt(1, 0), 0, 0, api.ErrBytes, 0},
	} {
		x.try(t)
	}
}

// P1.2: a count, and how it is too long.
func TestReadCount(t *testing.T) {
	for _, x := range []reading{
		{"most is met", []byte{5, 9}, readCount(5), 5, 1, api.OK, 0},
		{"most is passed", []byte{5, 9}, readCount(4), 0, 0, api.ErrLong, 0},
		{"0 of 0", []byte{0}, readCount(0), 0, 1, api.OK, 0},
		{"1 of 0", []byte{1}, readCount(0), 0, 0, api.ErrLong, 0},
		{"0 of less than none", []byte{0}, readCount(-1), 0, 0, api.ErrLong, 0},
		{"0 of the least", []byte{0}, readCount(math.MinInt), 0, 0, api.ErrLong, 0},
		{"no bytes need stand behind it", []byte{128, 1}, readCount(128), 128, 2, api.OK, 0},
		{"two bytes, too long", []byte{128, 1}, readCount(127), 0, 0, api.ErrLong, 0},
		{"the greatest", many(8, 255, 127), readCount(math.MaxInt), math.MaxInt, 9, api.OK, 0},
		{"the greatest, one too many", many(8, 255, 127), readCount(math.MaxInt - 1), 0, 0, api.ErrLong, 0},
		{"nothing", nil, readCount(-1), 0, 0, api.ErrBytes, 0},
		{"missing", []byte{255}, readCount(0), 0, 0, api.ErrBytes, 1},
		{"the last one is 0", []byte{255, 0}, readCount(0), 0, 0, api.ErrBytes, 0},
		{"the ninth is 128", many(9, 128), readCount(0), 0, 0, api.ErrRange, 0},
	} {
		x.try(t)
	}
}

// P1.2: a text: its length first, then its bytes; with a fault the place is ahead of both.
func TestReadText(t *testing.T) {
	long := strings.Repeat("x", 128)
	for _, x := range []reading{
		{"ab", []byte{2, 97, 98, 99}, readText(9), "ab", 3, api.OK, 0},
		{"most is met", []byte{2, 97, 98}, readText(2), "ab", 3, api.OK, 0},
		{"most is passed", []byte{2, 97, 98}, readText(1), "", 0, api.ErrLong, 0},
		{"an empty one", []byte{0, 97}, readText(0), "", 1, api.OK, 0},
		{"an empty one of less than none", []byte{0}, readText(-1), "", 0, api.ErrLong, 0},
		{"any bytes", []byte{4, 0, 255, 128, 10}, readText(4), "\x00\xff\x80\n", 5, api.OK, 0},
		{"a long one", append([]byte{128, 1}, long...), readText(128), long, 130, api.OK, 0},
		{"a long one, too long", append([]byte{128, 1}, long...), readText(127), "", 0, api.ErrLong, 0},
		{"too long, and not there", []byte{3, 1, 2}, readText(2), "", 0, api.ErrLong, 0},
		{"not there", []byte{3, 1, 2}, readText(9), "", 0, api.ErrBytes, 3},
		{"none of it there", []byte{1}, readText(9), "", 0, api.ErrBytes, 1},
		{"one is missing", []byte{2, 1}, readText(9), "", 0, api.ErrBytes, 2},
		{"the greatest is not there", many(8, 255, 127, 1, 2), readText(math.MaxInt), "", 0, api.ErrBytes, 11},
		{"nothing", nil, readText(9), "", 0, api.ErrBytes, 0},
		{"no length", []byte{128}, readText(9), "", 0, api.ErrBytes, 1},
		{"a length that ends in 0", []byte{128, 0, 1}, readText(9), "", 0, api.ErrBytes, 0},
		{"a length of ten bytes", many(9, 128, 1), readText(9), "", 0, api.ErrRange, 0},
	} {
		x.try(t)
	}
}

// P1.2: an ID is thirty-two bytes, any of them.
func TestReadID(t *testing.T) {
	id := countUp()
	for _, x := range []reading{
		{"an ID", id[:], readID(), id, 32, api.OK, 0},
		{"an ID, and one byte", append(id[:], 5), readID(), id, 32, api.OK, 0},
		{"one is missing", id[:31], readID(), api.ID{}, 0, api.ErrBytes, 31},
		{"one is there", id[:1], readID(), api.ID{}, 0, api.ErrBytes, 1},
		{"nothing", nil, readID(), api.ID{}, 0, api.ErrBytes, 0},
	} {
		x.try(t)
	}
}

// P1.2, P1.3: the document's example of two numbers, the second one out of its bounds.
func TestReadExample(t *testing.T) {
	r := word.Open([]byte{128, 1, 5})
	if n := r.Int(0, 200); n != 128 {
		t.Error(n)
	}
	if n := r.Int(0, 4); n != 0 || r.At() != 2 || r.Fault() != (api.Fault{Err: api.ErrRange, At: 2}) {
		t.Error(n, r.At(), r.Fault())
	}
	if n := r.Int(0, 9); n != 0 {
		t.Error(n)
	}
}

// P1.3: place and rest, thing by thing; End tells of bytes that are left, and changes nothing.
func TestPlaces(t *testing.T) {
	b := written(t, writeInt(300), writeText("abc"), writeID(countUp()), writeInt(7))
	r := word.Open(b)
	for i, x := range []struct {
		do   call
		over int
	}{{readInt(0, 300), 2}, {readText(3), 6}, {readID(), 38}, {readCount(7), 39}} {
		at := r.At()
		for range 2 {
			if f := r.End(); f != (api.Fault{Err: api.ErrBytes, At: at}) {
				t.Errorf("%d: End at %d: %v", i, at, f)
			}
			if f := r.Fault(); f != (api.Fault{}) {
				t.Errorf("%d: Fault behind End: %v", i, f)
			}
		}
		x.do(r)
		if r.At() != x.over || r.Left() != len(b)-x.over {
			t.Errorf("%d: at %d, left %d", i, r.At(), r.Left())
		}
	}
	if r.End() != (api.Fault{}) || r.Fault() != (api.Fault{}) {
		t.Errorf("at the end: %v, %v", r.End(), r.Fault())
	}
}

// P1.3: without any bytes a reader is at its end from the beginning.
func TestNoBytes(t *testing.T) {
	for _, b := range [][]byte{nil, {}} {
		r := word.Open(b)
		if r.At() != 0 || r.Left() != 0 || r.Fault() != (api.Fault{}) || r.End() != (api.Fault{}) {
			t.Error(r.At(), r.Left(), r.Fault(), r.End())
		}
	}
}

// P1.3, P1: a reader that is none tells nothing, and ErrNil at 0.
func TestNoReader(t *testing.T) {
	for i, r := range noReaders() {
		for _, n := range []int{math.MinInt, -1, 0, 9, math.MaxInt} {
			if r.Int(n, 9) != 0 || r.Int(0, n) != 0 || r.Count(n) != 0 || r.Text(n) != "" || r.ID() != (api.ID{}) || r.At() != 0 || r.Left() != 0 {
				t.Errorf("%d: something is told", i)
			}
			if none := (api.Fault{Err: api.ErrNil}); r.Fault() != none || r.End() != none {
				t.Errorf("%d: %v, %v", i, r.Fault(), r.End())
			}
		}
	}
}

// P1.6: a number is taken just if its bounds have it.
func TestBounds(t *testing.T) {
	ends := append(edgeNumbers(), math.MinInt, -129, -128, -1)
	for _, n := range edgeNumbers() {
		b := sevensOf(n)
		for _, low := range ends {
			for _, high := range ends {
				r := word.Open(b)
				told, has := r.Int(low, high), low <= n && n <= high
				if has && (told != n || r.Fault() != (api.Fault{}) || r.At() != len(b)) {
					t.Fatalf("%d, Int(%d, %d): %d, %v", n, low, high, told, r.Fault())
				}
				if !has && (told != 0 || r.Fault() != (api.Fault{Err: api.ErrRange}) || r.At() != 0) {
					t.Fatalf("%d, Int(%d, %d): %d, %v", n, low, high, told, r.Fault())
				}
			}
		}
	}
}

// P1.6: a fault is the last word, whatever is asked behind it.
func TestFaultIsTheLastWord(t *testing.T) {
	behind := append(many(40, 1), many(40, 128)...)
	for i, x := range []struct {
		b     []byte
		do    call
		fault api.Fault
	}{
		{[]byte{5}, readInt(6, 9), api.Fault{Err: api.ErrRange, At: 1}},
		{[]byte{5}, readCount(4), api.Fault{Err: api.ErrLong, At: 1}},
		{[]byte{90}, readText(90), api.Fault{Err: api.ErrBytes, At: 82}},
		{[]byte{128, 0}, readText(9), api.Fault{Err: api.ErrBytes, At: 1}},
		{many(9, 200), readInt(0, math.MaxInt), api.Fault{Err: api.ErrRange, At: 1}},
	} {
		r := word.Open(slices.Concat([]byte{3}, x.b, behind))
		r.Int(0, 9)
		x.do(r)
		left := r.Left()
		for j, again := range []call{readInt(0, math.MaxInt), readInt(9, 0), readCount(math.MaxInt), readCount(-1), readText(math.MaxInt), readText(-1), readID(), x.do} {
			told := again(r)
			if told != 0 && told != "" && told != (api.ID{}) {
				t.Errorf("%d, %d: told %v", i, j, told)
			}
			if r.Fault() != x.fault || r.End() != x.fault || r.At() != 1 || r.Left() != left {
				t.Errorf("%d, %d: %v, %v, at %d, left %d", i, j, r.Fault(), r.End(), r.At(), r.Left())
			}
		}
	}
}

// P1.6: the fault of an ID that is not all there is the last word, too.
func TestFaultOfID(t *testing.T) {
	r := word.Open(many(31, 1))
	r.ID()
	if r.Int(0, 9) != 0 || r.At() != 0 || r.Left() != 31 || r.End() != (api.Fault{Err: api.ErrBytes, At: 31}) {
		t.Error(r.At(), r.Left(), r.End())
	}
}

// P1 (DOC.md, rule 4): a reader's bytes are its own; those handed in are not changed, and their spare room is not read.
func TestBytesAreOwn(t *testing.T) {
	b := []byte{2, 97, 98, 1, 99, 9, 9, 9}
	keep := slices.Clone(b)
	r := word.Open(b[:5])
	if s := r.Text(9); s != "ab" || !bytes.Equal(b, keep) {
		t.Error(s, b)
	}
	for i := range b {
		b[i] = 255
	}
	if s := r.Text(9); s != "c" || r.End() != (api.Fault{}) || r.Left() != 0 {
		t.Error(s, r.End())
	}
	if n := r.Int(0, 999); n != 0 || r.Fault() != (api.Fault{Err: api.ErrBytes, At: 5}) {
		t.Error(n, r.Fault())
	}
}

// P1: readers side by side do not touch one another.
func TestReadersApart(t *testing.T) {
	b := []byte{1, 2, 3}
	x, y := word.Open(b), word.Open(b)
	x.Int(0, 9)
	x.Int(9, 9)
	if y.At() != 0 || y.Fault() != (api.Fault{}) || y.Int(0, 9) != 1 || y.Int(0, 9) != 2 || x.At() != 1 {
		t.Error(x.At(), y.At(), y.Fault())
	}
}
