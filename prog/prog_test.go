package prog_test

import (
	"bytes"
	"math"
	"slices"
	"strings"
	"testing"

	"retcon/api"
	"retcon/code"
	"retcon/hash"
	"retcon/prog"
)

// Instructions that the tests are made of: text is a set whose text has so many bytes, and has 3 more itself.
func halt() api.Instr                     { return api.Instr{Op: api.OpHalt} }
func jump(n int) api.Instr                { return api.Instr{Op: api.OpJump, N: n} }
func skip(n int) api.Instr                { return api.Instr{Op: api.OpSkip, A: 7, N: n} }
func scan(n int) api.Instr                { return api.Instr{Op: api.OpScan, A: 1, B: 2, C: 3, N: n} }
func text(n int) api.Instr                { return api.Instr{Op: api.OpSet, A: 5, S: strings.Repeat("\xff", n)} }
func many(n int, i api.Instr) []api.Instr { return slices.Repeat([]api.Instr{i}, n) }

// list is instructions and lists of them, one behind the other.
func list(parts ...any) []api.Instr {
	var l []api.Instr
	for _, p := range parts {
		switch x := p.(type) {
		case api.Instr:
			l = append(l, x)
		case []api.Instr:
			l = append(l, x...)
		}
	}
	return l
}

// size512 is a transaction of just so many bytes: 1, seven times 67, 42.
func size512() []api.Instr { return list(many(7, text(64)), text(39)) }

// told is what Check and Bytes answer of a transaction, sentence by sentence as the document says it.
func told(l []api.Instr) (b []byte, err api.Errno, at int) {
	if len(l) > 60 {
		return nil, api.ErrLong, 60
	}
	for n, i := range l {
		if code.Check(i) != api.OK {
			return nil, api.ErrArg, n
		}
	}
	for n, i := range l {
		if (i.Op == 12 || i.Op == 13) && i.N > len(l[n+1:]) {
			return nil, api.ErrRange, n
		}
	}
	b = []byte{byte(len(l))}
	for n, i := range l {
		one, _ := code.Bytes(i)
		if b = append(b, one...); len(b) > 512 {
			return nil, api.ErrLong, n
		}
	}
	return b, api.OK, 0
}

// P6.1: what the three calls answer of one transaction.
func holdTold(t *testing.T, l []api.Instr) {
	t.Helper()
	want, err, at := told(l)
	if e, n := prog.Check(l); e != err || n != at {
		t.Fatalf("Check(%+v): %v, %d; want %v, %d", l, e, n, err, at)
	}
	if b, e := prog.Bytes(l); !bytes.Equal(b, want) || e != err {
		t.Fatalf("Bytes(%+v): %v, %v; want %v, %v", l, b, e, want, err)
	}
	var id api.ID
	if err == api.OK {
		id = hash.Sum(want)
	}
	if i, e := prog.ID(l); i != id || e != err {
		t.Fatalf("ID(%+v): %v, %v; want %v, %v", l, i, e, id, err)
	}
}

// P6.1: the examples of the document.
func TestExamples(t *testing.T) {
	for _, x := range []struct {
		l   []api.Instr
		b   []byte
		err api.Errno
	}{
		{nil, []byte{0}, api.OK},
		{list(jump(1), halt()), []byte{2, 13, 1, 15}, api.OK},
		{list(jump(1)), nil, api.ErrRange},
	} {
		if b, err := prog.Bytes(x.l); !bytes.Equal(b, x.b) || err != x.err {
			t.Errorf("Bytes(%+v): %v, %v; want %v, %v", x.l, b, err, x.b, x.err)
		}
	}
	if err, at := prog.Check(list(halt(), api.Instr{})); err != api.ErrArg || at != 1 {
		t.Error("Check(halt, Op 0):", err, at)
	}
	if err, at := prog.Check(many(9, text(64))); err != api.ErrLong || at != 7 {
		t.Error("Check(nine sets of 64 bytes):", err, at)
	}
}

// P6.1: the edges of each sentence, and which of two errors comes first.
func TestCheck(t *testing.T) {
	none := api.Instr{}
	for n, x := range []struct {
		l   []api.Instr
		err api.Errno
		at  int
	}{
		{nil, api.OK, 0},
		{[]api.Instr{}, api.OK, 0},
		{many(60, halt()), api.OK, 0},
		{many(61, halt()), api.ErrLong, 60},
		{many(100000, halt()), api.ErrLong, 60},
		{many(61, none), api.ErrLong, 60},
		{many(61, text(64)), api.ErrLong, 60},
		{list(jump(60), many(60, halt())), api.ErrLong, 60},

		{list(none), api.ErrArg, 0},
		{list(many(59, halt()), none), api.ErrArg, 59},
		{list(halt(), none, none), api.ErrArg, 1},
		{list(halt(), text(65)), api.ErrArg, 1},
		{list(halt(), scan(17)), api.ErrArg, 1},
		{list(jump(0)), api.ErrArg, 0},
		{list(halt(), jump(-1)), api.ErrArg, 1},
		{list(halt(), jump(61)), api.ErrArg, 1},
		{list(halt(), jump(math.MinInt)), api.ErrArg, 1},
		{list(halt(), jump(math.MaxInt)), api.ErrArg, 1},
		{list(halt(), api.Instr{Op: api.OpHalt, N: 1}), api.ErrArg, 1},
		{list(jump(9), halt(), none), api.ErrArg, 2},
		{list(many(9, text(64)), none), api.ErrArg, 9},

		{list(jump(1)), api.ErrRange, 0},
		{list(skip(1)), api.ErrRange, 0},
		{list(jump(1), halt()), api.OK, 0},
		{list(skip(1), halt()), api.OK, 0},
		{list(jump(2), halt()), api.ErrRange, 0},
		{list(skip(2), halt()), api.ErrRange, 0},
		{list(jump(59), many(59, halt())), api.OK, 0},
		{list(skip(59), many(59, halt())), api.OK, 0},
		{list(jump(60), many(59, halt())), api.ErrRange, 0},
		{list(skip(60), many(59, halt())), api.ErrRange, 0},
		{list(many(59, halt()), jump(1)), api.ErrRange, 59},
		{list(halt(), jump(1), skip(2), jump(1)), api.ErrRange, 2},
		{list(scan(16)), api.OK, 0},
		{list(many(9, text(64)), jump(1)), api.ErrRange, 9},

		{size512(), api.OK, 0},
		{list(many(7, text(64)), text(40)), api.ErrLong, 7},
		{list(size512(), halt()), api.ErrLong, 8},
		{list(size512(), halt(), halt()), api.ErrLong, 8},
		{list(halt(), size512()), api.ErrLong, 8},
		{list(many(7, text(64)), text(37), jump(1), halt()), api.ErrLong, 9},
		{many(60, text(64)), api.ErrLong, 7},
		{many(60, text(5)), api.OK, 0},
		{many(60, text(6)), api.ErrLong, 56},
	} {
		if err, at := prog.Check(x.l); err != x.err || at != x.at {
			t.Errorf("%d: %v, %d; want %v, %d", n, err, at, x.err, x.at)
		}
		holdTold(t, x.l)
	}
	if b, _ := prog.Bytes(size512()); len(b) != 512 {
		t.Error(len(b))
	}
}

// P6.1: a jump and a skip over each number, at each place of transactions of all lengths.
func TestPassesOver(t *testing.T) {
	for size := 1; size <= 60; size++ {
		for _, at := range []int{0, 1, size / 2, size - 2, size - 1} {
			if at < 0 || at >= size {
				continue
			}
			for n := -1; n <= 62; n++ {
				for _, i := range []api.Instr{jump(n), skip(n)} {
					l := many(size, halt())
					l[at] = i
					holdTold(t, l)
				}
			}
		}
	}
}

// P6.1: all short lists of instructions that matter, those that may not be among them.
func TestShort(t *testing.T) {
	letters := []api.Instr{halt(), jump(1), jump(2), jump(3), skip(1), skip(2), scan(16), text(64), {}, {Op: 16}, jump(61)}
	lists := [][]api.Instr{nil}
	for range 4 {
		var longer [][]api.Instr
		for _, l := range lists {
			for _, i := range letters {
				longer = append(longer, list(l, i))
			}
		}
		lists = longer
		for _, l := range lists {
			holdTold(t, l)
		}
	}
}

// P6.1: bytes about the most there may be, whichever instruction brings them.
func TestAboutLongest(t *testing.T) {
	for ahead := range 60 {
		for last := range 65 {
			for behind := range 3 {
				holdTold(t, list(many(ahead, text(13)), text(last), many(behind, halt())))
			}
		}
	}
}

// P6.1: two are the same, instruction by instruction and field by field, such as may not be among them.
func TestSame(t *testing.T) {
	plain := api.Instr{Op: 99, A: -1, B: 8, C: math.MinInt, N: math.MaxInt, S: strings.Repeat("x", 70)}
	others := []api.Instr{plain, plain, plain, plain, plain, plain, plain}
	others[0].Op++
	others[1].A++
	others[2].B++
	others[3].C++
	others[4].N--
	others[5].S = others[5].S[1:]
	others[6].S = "y" + others[6].S[1:]
	for n, o := range others {
		for at := range 3 {
			a, b := many(3, plain), many(3, plain)
			if b[at] = o; prog.Same(a, b) || prog.Same(b, a) || !prog.Same(b, slices.Clone(b)) {
				t.Error(n, at)
			}
		}
	}
	long := many(1000, plain)
	for _, x := range []struct {
		a, b []api.Instr
		same bool
	}{
		{nil, nil, true},
		{nil, []api.Instr{}, true},
		{[]api.Instr{}, long[:0], true},
		{nil, many(1, api.Instr{}), false},
		{list(halt()), list(halt(), api.Instr{}), false},
		{list(halt(), jump(1)), list(jump(1), halt()), false},
		{list(jump(1), halt()), list(jump(1), halt()), true},
		{list(jump(1), halt()), list(skip(1), halt()), false},
		{long, slices.Clone(long), true},
		{long, long[1:], false},
		{long[:3], long[4:7], true},
	} {
		if prog.Same(x.a, x.b) != x.same || prog.Same(x.b, x.a) != x.same {
			t.Errorf("Same(%+v, %+v)", x.a, x.b)
		}
	}
}
