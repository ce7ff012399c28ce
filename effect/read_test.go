package effect_test

import (
	"bytes"
	"math/rand/v2"
	"slices"
	"strings"
	"testing"

	"retcon/api"
	"retcon/effect"
)

// words reads bytes by the document's words alone: a place, and at most one fault, the first one, behind which it stands still.
type words struct {
	b  []byte
	at int
	f  api.Fault
}

func (w *words) fail(err api.Errno, at int) {
	if w.f.Err == api.OK {
		w.f = api.Fault{Err: err, At: at}
	}
}

// number is what stands at the place as a number, from 0 to most; what is more is told by an error.
func (w *words) number(most int, err api.Errno) int {
	from, n := w.at, 0
	for i := 0; w.f.Err == api.OK; i++ {
		if from+i >= len(w.b) {
			w.fail(api.ErrBytes, len(w.b))
			break
		}
		x := int(w.b[from+i])
		if i == 8 && x >= 128 {
			w.fail(api.ErrRange, from)
			break
		}
		if x == 0 && i > 0 {
			w.fail(api.ErrBytes, from)
			break
		}
		n |= x % 128 << (7 * i)
		if x < 128 {
			if n > most {
				w.fail(err, from)
				break
			}
			w.at = from + i + 1
			return n
		}
	}
	return 0
}

func (w *words) text(most int) string {
	n := w.number(most, api.ErrLong)
	if n > len(w.b)-w.at {
		w.fail(api.ErrBytes, len(w.b))
	}
	if w.f.Err != api.OK {
		return ""
	}
	w.at += n
	return string(w.b[w.at-n : w.at])
}

// readAll is what Read tells, field by field.
func readAll(b []byte) (api.Effect, api.Fault) {
	w := &words{b: b}
	x := api.Effect{Why: w.number(3, api.ErrRange)}
	x.Steps = w.number(200, api.ErrRange)
	for range w.number(60, api.ErrLong) {
		x.Reads = append(x.Reads, w.text(32))
	}
	for range w.number(60, api.ErrLong) {
		lo := w.text(64)
		hi := w.text(64)
		x.Spans = append(x.Spans, api.Span{Lo: lo, Hi: hi})
	}
	for range w.number(60, api.ErrLong) {
		k := w.text(32)
		if w.number(1, api.ErrRange) == 1 {
			x.Writes = append(x.Writes, api.Write{K: k, Del: true})
		} else {
			x.Writes = append(x.Writes, api.Write{K: k, V: w.text(64)})
		}
	}
	if w.at < len(b) {
		w.fail(api.ErrBytes, w.at)
	}
	if w.f.Err != api.OK {
		return api.Effect{}, w.f
	}
	if may(x) != api.OK {
		return api.Effect{}, api.Fault{Err: api.ErrArg}
	}
	return x, api.Fault{}
}

// P9.2, and P9.3 (P2): what is read is as the document says, and is written as the bytes that it was read from.
func holdRead(t *testing.T, b []byte) api.Errno {
	t.Helper()
	x, f := effect.Read(b)
	want, wf := readAll(b)
	if !equal(x, want) || f != wf {
		t.Fatalf("Read(%v): %+v, %v; want %+v, %v", b, x, f, want, wf)
	}
	if f.Err != api.OK {
		return f.Err
	}
	if again, err := effect.Bytes(x); !bytes.Equal(again, b) || err != api.OK {
		t.Fatalf("Read(%v): %+v, written as %v, %v", b, x, again, err)
	}
	return api.OK
}

// of is bytes, and texts and lists of them, one behind the other.
func of(parts ...any) []byte {
	var b []byte
	for _, p := range parts {
		switch x := p.(type) {
		case int:
			b = append(b, byte(x))
		case string:
			b = append(b, x...)
		case []byte:
			b = append(b, x...)
		}
	}
	return b
}

// A reading is what Read tells of some bytes.
type reading struct {
	b []byte
	x api.Effect
	f api.Fault
}

func holdReadings(t *testing.T, l []reading) {
	t.Helper()
	for n, x := range l {
		if got, f := effect.Read(x.b); !equal(got, x.x) || f != x.f {
			t.Errorf("%d: Read(%v): %+v, %v; want %+v, %v", n, x.b, got, f, x.x, x.f)
		}
		holdRead(t, x.b)
	}
}

func none() api.Fault { return api.Fault{} }

func wrong() api.Fault { return api.Fault{Err: api.ErrArg} }

func bytesAt(at int) api.Fault { return api.Fault{Err: api.ErrBytes, At: at} }

func rangeAt(at int) api.Fault { return api.Fault{Err: api.ErrRange, At: at} }

func longAt(at int) api.Fault { return api.Fault{Err: api.ErrLong, At: at} }

// P9.2: the edges of Why, of Steps, and of what is left.
func TestReadEnd(t *testing.T) {
	holdReadings(t, []reading{
		{nil, api.Effect{}, bytesAt(0)},
		{of(3), api.Effect{}, bytesAt(1)},
		{of(4), api.Effect{}, rangeAt(0)},
		{of(4, 201, 1, 61), api.Effect{}, rangeAt(0)},
		{of(128, 0), api.Effect{}, bytesAt(0)},
		{of(131, 0), api.Effect{}, bytesAt(0)},
		{of(128, 1), api.Effect{}, rangeAt(0)},
		{bytes.Repeat(of(128), 9), api.Effect{}, rangeAt(0)},
		{of(0, 0, 0, 0, 0), api.Effect{}, none()},
		{of(3, 200, 1, 0, 0, 0), api.Effect{Why: 3, Steps: 200}, none()},
		{of(3, 201, 1, 0, 0, 0), api.Effect{}, rangeAt(1)},
		{of(0, 201, 1, 61), api.Effect{}, rangeAt(1)},
		{of(0, 200), api.Effect{}, bytesAt(2)},
		{of(0, 200, 0), api.Effect{}, bytesAt(1)},
		{of(0, 127, 0, 0, 0), api.Effect{Steps: 127}, none()},
	})
}

// P9.2: the edges of Reads, and which of two faults comes first.
func TestReadReads(t *testing.T) {
	holdReadings(t, []reading{
		{of(0, 0), api.Effect{}, bytesAt(2)},
		{of(0, 0, 61), api.Effect{}, longAt(2)},
		{of(0, 0, 128, 1), api.Effect{}, longAt(2)},
		{of(0, 0, 60), api.Effect{}, bytesAt(3)},
		{of(0, 0, 1), api.Effect{}, bytesAt(3)},
		{of(0, 0, 1, 32, long(32), 0, 0), api.Effect{Reads: []string{long(32)}}, none()},
		{of(0, 0, 1, 33, long(33), 0, 0), api.Effect{}, longAt(3)},
		{of(0, 0, 1, 32, long(31)), api.Effect{}, bytesAt(35)},
		{of(0, 0, 1, 0, 0, 0), api.Effect{}, wrong()},
		{of(0, 0, 2, 1, "a", 1, "a", 0, 0), api.Effect{}, wrong()},
		{of(0, 0, 2, 1, "b", 1, "a", 0, 0), api.Effect{}, wrong()},
		{of(0, 0, 2, 1, "b", 1, "a", 0, 0, 0), api.Effect{}, bytesAt(9)},
		{of(0, 0, 2, 1, "b", 1, "a", 61), api.Effect{}, longAt(7)},
	})
}

// P9.2: the edges of Spans, and which of two faults comes first.
func TestReadSpans(t *testing.T) {
	holdReadings(t, []reading{
		{of(0, 0, 0), api.Effect{}, bytesAt(3)},
		{of(0, 0, 0, 61), api.Effect{}, longAt(3)},
		{of(0, 0, 0, 1), api.Effect{}, bytesAt(4)},
		{of(0, 0, 0, 1, 0), api.Effect{}, bytesAt(5)},
		{of(0, 0, 0, 1, 0, 0, 0), api.Effect{Spans: spans("", "")}, none()},
		{of(0, 0, 0, 1, 64, long(64), 0, 0), api.Effect{Spans: spans(long(64), "")}, none()},
		{of(0, 0, 0, 1, 65, long(65), 0, 0), api.Effect{}, longAt(4)},
		{of(0, 0, 0, 1, 0, 64, long(64), 0), api.Effect{Spans: spans("", long(64))}, none()},
		{of(0, 0, 0, 1, 0, 65, long(65), 0), api.Effect{}, longAt(5)},
		{of(0, 0, 0, 1, 1, "b", 1, "b", 0), api.Effect{}, wrong()},
		{of(0, 0, 0, 2, 1, "a", 1, "b", 1, "b", 1, "c", 0), api.Effect{}, wrong()},
		{of(0, 0, 0, 2, 1, "a", 1, "b", 1, "b", 1, "c", 0, 7), api.Effect{}, bytesAt(13)},
	})
}

// P9.2: the edges of Writes, and which of two faults comes first.
func TestReadWrites(t *testing.T) {
	holdReadings(t, []reading{
		{of(0, 0, 0, 0), api.Effect{}, bytesAt(4)},
		{of(0, 0, 0, 0, 61), api.Effect{}, longAt(4)},
		{of(0, 0, 0, 0, 1), api.Effect{}, bytesAt(5)},
		{of(0, 0, 0, 0, 1, 33, long(33), 0, 0), api.Effect{}, longAt(5)},
		{of(0, 0, 0, 0, 1, 1, "a"), api.Effect{}, bytesAt(7)},
		{of(0, 0, 0, 0, 1, 1, "a", 2), api.Effect{}, rangeAt(7)},
		{of(0, 0, 0, 0, 1, 1, "a", 129, 0), api.Effect{}, bytesAt(7)},
		{of(0, 0, 0, 0, 1, 1, "a", 0), api.Effect{}, bytesAt(8)},
		{of(0, 0, 0, 0, 1, 1, "a", 1), api.Effect{Writes: dels("a")}, none()},
		{of(0, 0, 0, 0, 1, 1, "a", 1, 0), api.Effect{}, bytesAt(8)},
		{of(0, 0, 0, 0, 1, 1, "a", 1, 1, "x"), api.Effect{}, bytesAt(8)},
		{of(0, 0, 0, 0, 1, 1, "a", 0, 0), api.Effect{Writes: puts("a", "")}, none()},
		{of(0, 0, 0, 0, 1, 32, long(32), 0, 64, long(64)), api.Effect{Writes: puts(long(32), long(64))}, none()},
		{of(0, 0, 0, 0, 1, 1, "a", 0, 65, long(65)), api.Effect{}, longAt(8)},
		{of(0, 0, 0, 0, 1, 1, "a", 0, 64, long(63)), api.Effect{}, bytesAt(72)},
		{of(0, 0, 0, 0, 1, 0, 0, 0), api.Effect{}, wrong()},
		{of(0, 0, 0, 0, 2, 1, "a", 1, 1, "a", 0, 0), api.Effect{}, wrong()},
		{of(0, 0, 0, 0, 2, 1, "a", 1, 1, "b", 0, 1, "v"), api.Effect{Writes: slices.Concat(dels("a"), puts("b", "v"))}, none()},
		{of(1, 0, 0, 0, 1, 1, "a", 1), api.Effect{}, wrong()},
		{of(2, 0, 0, 0, 1, 1, "a", 0, 0), api.Effect{}, wrong()},
		{of(3, 0, 0, 0, 1, 1, "a", 0, 0, 0), api.Effect{}, bytesAt(9)},
	})
}

// P9.2: each count may be 60, but all together they may be no more.
func TestReadSixty(t *testing.T) {
	for _, n := range [][3]int{{60, 0, 0}, {0, 60, 0}, {0, 0, 60}, {20, 20, 20}, {60, 60, 60}, {61, 0, 0}, {0, 61, 0}, {0, 0, 61}, {59, 1, 1}, {1, 59, 1}} {
		x := api.Effect{Reads: names(n[0]), Spans: apart(n[1]), Writes: dels(names(n[2])...)}
		want := api.OK
		switch {
		case max(n[0], n[1], n[2]) > 60:
			want = api.ErrLong
		case n[0]+n[1]+n[2] > 60:
			want = api.ErrArg
		}
		if err := holdRead(t, row(x)); err != want {
			t.Errorf("%v: %v, want %v", n, err, want)
		}
	}
}

// P9.2: an effect's bytes are at most 7,807, and the longest one is read.
func TestLongest(t *testing.T) {
	x := api.Effect{Why: 3, Steps: 200}
	for i := range 60 {
		at := name(i)
		x.Spans = append(x.Spans, api.Span{Lo: at + strings.Repeat("a", 62), Hi: at + strings.Repeat("b", 62)})
	}
	hold(t, x)
	if b, err := effect.Bytes(x); len(b) != 6+60*130 || len(b) > 7807 || err != api.OK {
		t.Error(len(b), err)
	}
	reads, writes := api.Effect{Steps: 200}, api.Effect{Steps: 200}
	for i := range 60 {
		k := name(i) + long(30)
		reads.Reads = append(reads.Reads, k)
		writes.Writes = append(writes.Writes, api.Write{K: k, V: long(64)})
	}
	hold(t, reads)
	hold(t, writes)
}

// P9.2, P9.3: all short rows of the bytes that matter.
func TestReadShort(t *testing.T) {
	told := map[api.Errno]int{}
	letters := []byte{0, 1, 2, 3, 4, 60, 61, 65, 128, 200}
	rows := [][]byte{nil}
	for range 6 {
		var longer [][]byte
		for _, b := range rows {
			told[holdRead(t, b)]++
			for _, l := range letters {
				longer = append(longer, append(bytes.Clone(b), l))
			}
		}
		rows = longer
	}
	if told[api.OK] < 8 || told[api.ErrBytes] < 100 || told[api.ErrRange] < 100 || told[api.ErrLong] < 100 {
		t.Error(told)
	}
}

// P9.2, P9.3: what is written, with each byte in turn another one, gone, or doubled, and cut off anywhere.
func TestReadSpoilt(t *testing.T) {
	told := map[api.Errno]int{}
	for _, x := range []api.Effect{
		{},
		example(),
		{Why: 3, Steps: 200, Reads: []string{"a", "b"}, Spans: spans("", "a", "b", "")},
		{Steps: 128, Spans: spans("", "\x00", "a", "b"), Writes: slices.Concat(puts("a", ""), dels("b"), puts("c", "123"))},
		{Reads: []string{long(32)}, Spans: spans("a", long(64)), Writes: slices.Concat(dels("a"), puts("b", long(64)))},
	} {
		b, err := effect.Bytes(x)
		if err != api.OK {
			t.Fatal(err)
		}
		for n := range b {
			told[holdRead(t, b[:n])]++
			told[holdRead(t, slices.Delete(bytes.Clone(b), n, n+1))]++
			told[holdRead(t, slices.Insert(bytes.Clone(b), n, b[n]))]++
			for x := range 256 {
				other := bytes.Clone(b)
				other[n] = byte(x)
				told[holdRead(t, other)]++
			}
		}
		for x := range 256 {
			told[holdRead(t, append(bytes.Clone(b), byte(x)))]++
		}
	}
	for _, err := range []api.Errno{api.OK, api.ErrArg, api.ErrLong, api.ErrBytes, api.ErrRange} {
		if told[err] < 100 {
			t.Error(err, told)
		}
	}
}

// P9.2, P1: rows that look like chance, most of which begin well.
func TestReadAny(t *testing.T) {
	r := seeded()
	for range 40000 {
		b := make([]byte, r.IntN(1+r.IntN(200)))
		for n := range b {
			b[n] = byte(r.IntN(1 << (1 + r.IntN(8))))
		}
		holdRead(t, b)
	}
	large := make([]byte, 1<<20)
	if _, f := effect.Read(large); f != (api.Fault{Err: api.ErrBytes, At: 5}) {
		t.Error(f)
	}
}

// some is an effect of any size, that may be, or nearly.
func some(r *rand.Rand) api.Effect {
	x := api.Effect{Why: r.IntN(4), Steps: r.IntN(201)}
	for _, i := range r.Perm(100)[:r.IntN(1+r.IntN(26))] {
		x.Reads = append(x.Reads, name(i))
	}
	slices.Sort(x.Reads)
	for _, s := range apart(100) {
		if r.IntN(6) == 0 && len(x.Spans) < 17 {
			x.Spans = append(x.Spans, s)
		}
	}
	if x.Why == 0 || r.IntN(9) == 0 {
		for _, k := range names(100) {
			if r.IntN(6) == 0 && len(x.Writes) < 17 {
				x.Writes = append(x.Writes, pick(r, append(dels(k), puts(k, long(r.IntN(65)))...)))
			}
		}
	}
	return x
}

// P9.3 (P2): effects of any size are read as they are, however they are mixed; those that are nearly so are refused.
func TestWrittenIsRead(t *testing.T) {
	r := seeded()
	told := map[api.Errno]int{}
	for range 20000 {
		x := some(r)
		told[hold(t, x)]++
		switch r.IntN(4) {
		case 0:
			x.Reads = append(x.Reads, pick(r, append(ends(), "99", "zz")))
		case 1:
			x.Spans = append(x.Spans, pick(r, append(spanParts(), spans("995", "998", "9960", "")...)))
		case 2:
			x.Writes = append(x.Writes, pick(r, writeParts()))
		}
		told[hold(t, x)]++
		told[holdRead(t, row(x))]++
	}
	if told[api.OK] < 10000 || told[api.ErrArg] < 3000 || told[api.ErrLong] < 50 {
		t.Error(told)
	}
}
