package exec_test

import (
	"math"
	"reflect"
	"slices"
	"strings"
	"testing"

	"retcon/api"
	"retcon/exec"
)

// tx is a transaction, each of whose parts is an instruction or some.
func tx(parts ...[]api.Instr) []api.Instr { return slices.Concat(parts...) }

func one(i api.Instr) []api.Instr { return []api.Instr{i} }

func set(a int, s string) []api.Instr   { return one(api.Instr{Op: api.OpSet, A: a, S: s}) }
func mov(a, b int) []api.Instr          { return one(api.Instr{Op: api.OpMov, A: a, B: b}) }
func get(a, b, c int) []api.Instr       { return one(api.Instr{Op: api.OpGet, A: a, B: b, C: c}) }
func put(a, b int) []api.Instr          { return one(api.Instr{Op: api.OpPut, A: a, B: b}) }
func del(a int) []api.Instr             { return one(api.Instr{Op: api.OpDel, A: a}) }
func scan(a, b, c, n int) []api.Instr   { return one(api.Instr{Op: api.OpScan, A: a, B: b, C: c, N: n}) }
func three(op, a, b, c int) []api.Instr { return one(api.Instr{Op: op, A: a, B: b, C: c}) }
func skip(a, n int) []api.Instr         { return one(api.Instr{Op: api.OpSkip, A: a, N: n}) }
func jump(n int) []api.Instr            { return one(api.Instr{Op: api.OpJump, N: n}) }
func abort(a int) []api.Instr           { return one(api.Instr{Op: api.OpAbort, A: a}) }
func halt() []api.Instr                 { return one(api.Instr{Op: api.OpHalt}) }

// tell writes what a register holds under a key of one byte, by way of register 7.
func tell(k string, reg int) []api.Instr { return tx(set(7, k), put(7, reg)) }

// of is pairs, written as keys and values in turn.
func of(kv ...string) []api.Pair {
	var l []api.Pair
	for i := 0; i < len(kv); i += 2 {
		l = append(l, api.Pair{K: kv[i], V: kv[i+1]})
	}
	return l
}

func abc() []api.Pair { return of("a", "1", "b", "2", "c", "3") }

func spans(ends ...string) []api.Span {
	var l []api.Span
	for i := 0; i < len(ends); i += 2 {
		l = append(l, api.Span{Lo: ends[i], Hi: ends[i+1]})
	}
	return l
}

// wrote is writes of values, written as keys and values in turn.
func wrote(kv ...string) []api.Write {
	var l []api.Write
	for _, p := range of(kv...) {
		l = append(l, api.Write{K: p.K, V: p.V})
	}
	return l
}

// n8 is a number in a register, by the words of the document.
func n8(n uint64) string {
	var b [8]byte
	for i := range b {
		b[7-i] = byte(n)
		n /= 256
	}
	return string(b[:])
}

func long(n int) string { return strings.Repeat("k", n) }

// equal is whether two effects are the same; nil and empty lists are.
func equal(x, y api.Effect) bool {
	return x.Why == y.Why && x.Steps == y.Steps && slices.Equal(x.Reads, y.Reads) && slices.Equal(x.Spans, y.Spans) && slices.Equal(x.Writes, y.Writes)
}

func hold(t *testing.T, l []api.Instr, state []api.Pair, want api.Effect) {
	t.Helper()
	got, err := exec.Run(l, state)
	if err != api.OK || !equal(got, want) {
		t.Errorf("%+v\non %q: %v,\n%+v; want\n%+v", l, state, err, got, want)
	}
}

// P8.1: the examples of the chapter.
func TestExamples(t *testing.T) {
	hold(t, tx(set(0, "b"), get(1, 0, 2), put(0, 1)), abc(),
		api.Effect{Steps: 3, Reads: []string{"b"}, Writes: wrote("b", "2")})
	hold(t, tx(set(0, "a"), set(1, "c"), scan(2, 0, 1, 5), put(2, 1)), abc(),
		api.Effect{Steps: 6, Spans: spans("a", "c"), Writes: wrote("b", n8(2))})
	hold(t, tx(set(0, "a"), scan(1, 0, 2, 1), abort(2)), abc(),
		api.Effect{Why: api.EndAbort, Steps: 4, Spans: spans("a", "a\x00")})
	hold(t, get(1, 0, 2), abc(),
		api.Effect{Why: api.EndKey, Steps: 1})
	hold(t, tx(set(0, "x"), put(0, 0), get(1, 0, 2), del(0)), abc(),
		api.Effect{Steps: 4, Writes: []api.Write{{K: "x", Del: true}}})
}

// P8.1: what is no transaction, or no state, is told ahead of all else; the transaction comes first.
func TestErrors(t *testing.T) {
	many := slices.Repeat(halt(), 61)
	wide := slices.Repeat(set(0, long(64)), 9)
	bad := of("b", "", "a", "")
	large := make([]api.Pair, 65537)
	for i, x := range []struct {
		l     []api.Instr
		state []api.Pair
		want  api.Errno
	}{
		{many, nil, api.ErrLong},
		{many, bad, api.ErrLong},
		{wide, nil, api.ErrLong},
		{wide, bad, api.ErrLong},
		{one(api.Instr{}), nil, api.ErrArg},
		{one(api.Instr{Op: 16}), large, api.ErrArg},
		{one(api.Instr{Op: -1}), nil, api.ErrArg},
		{one(api.Instr{Op: math.MinInt}), nil, api.ErrArg},
		{set(8, ""), nil, api.ErrArg},
		{set(-1, ""), nil, api.ErrArg},
		{set(0, long(65)), nil, api.ErrArg},
		{scan(0, 0, 0, 17), nil, api.ErrArg},
		{scan(0, 0, 0, 0), nil, api.ErrArg},
		{one(api.Instr{Op: api.OpHalt, S: "s"}), nil, api.ErrArg},
		{tx(halt(), one(api.Instr{})), nil, api.ErrArg},
		{jump(1), nil, api.ErrRange},
		{tx(halt(), skip(0, 2), halt()), bad, api.ErrRange},
		{nil, large, api.ErrLong},
		{nil, bad, api.ErrArg},
		{halt(), of("a", "", "a", ""), api.ErrArg},
		{halt(), of("", ""), api.ErrArg},
		{halt(), of(long(33), ""), api.ErrArg},
		{halt(), of("a", long(65)), api.ErrArg},
	} {
		if got, err := exec.Run(x.l, x.state); err != x.want || !reflect.DeepEqual(got, api.Effect{}) {
			t.Errorf("%d: %+v, %v; want %v", i, got, err, x.want)
		}
	}
}

// P8.1: of nothing nothing comes, whatever the state.
func TestNothing(t *testing.T) {
	for _, state := range [][]api.Pair{nil, {}, abc()} {
		hold(t, nil, state, api.Effect{})
		hold(t, []api.Instr{}, state, api.Effect{})
		hold(t, halt(), state, api.Effect{Steps: 1})
	}
}

// P8.1: registers are "" at first, all eight, and are no one another's.
func TestRegisters(t *testing.T) {
	for a := range 8 {
		for b := range 8 {
			at := "kv"
			l := tx(set(a, at), mov(b, a), set(a, "w"))
			want := at
			if a == b {
				want = "w"
			}
			k := (max(a, b) + 1) % 8
			if k == a || k == b {
				k = 3
			}
			hold(t, tx(l, set(k, "k"), put(k, b)), nil, api.Effect{Steps: 5, Writes: wrote("k", want)})
		}
		if a != 7 {
			hold(t, tell("k", a), nil, api.Effect{Steps: 2, Writes: wrote("k", "")})
		}
	}
	hold(t, tx(set(0, long(64)), set(1, ""), tell("a", 0), tell("b", 1)), nil, api.Effect{Steps: 6, Writes: wrote("a", long(64), "b", "")})
}

// P8.1: numbers go round in 64 bits; a register's number is its last eight bytes'.
func TestNumbers(t *testing.T) {
	edges := []uint64{0, 1, 2, 3, 5, 255, 256, math.MaxUint32, math.MaxUint32 + 1, math.MaxInt64, math.MaxInt64 + 1, math.MaxUint64 - 1, math.MaxUint64}
	for _, x := range edges {
		for _, y := range edges {
			l := tx(set(0, "12"+n8(x)), set(1, n8(y)), three(api.OpAdd, 2, 0, 1), three(api.OpSub, 3, 0, 1), three(api.OpMul, 4, 0, 1), tell("a", 2), tell("s", 3), tell("m", 4))
			hold(t, l, nil, api.Effect{Steps: 11, Writes: wrote("a", n8(x+y), "m", n8(x*y), "s", n8(x-y))})
		}
	}
	short := tx(set(0, "\x01\x00"), set(1, "\x03"), three(api.OpAdd, 2, 0, 1), three(api.OpSub, 3, 4, 1), tell("a", 2), tell("s", 3))
	hold(t, short, nil, api.Effect{Steps: 8, Writes: wrote("a", n8(259), "s", n8(math.MaxUint64-2))})
	into := tx(set(0, "\x05"), three(api.OpMul, 0, 0, 0), three(api.OpAdd, 0, 0, 0), three(api.OpSub, 1, 0, 1), tell("a", 0), tell("b", 1))
	hold(t, into, nil, api.Effect{Steps: 8, Writes: wrote("a", n8(50), "b", n8(50))})
	twice := tx(set(0, "\x05"), three(api.OpSub, 0, 0, 0), set(1, "\x07"), set(2, "\x02"), three(api.OpSub, 2, 1, 2), tell("a", 0), tell("b", 2))
	hold(t, twice, nil, api.Effect{Steps: 9, Writes: wrote("a", n8(0), "b", n8(5))})
}

// P8.1: cmp holds texts against each other, not numbers.
func TestCmp(t *testing.T) {
	rise := []string{"", "\x00", "\x00\x00", "\x00\x01", "\x01", "a", "a\x00", "ab", "b", "\x7f", "\x80", "\xff", "\xff\xff"}
	for i, x := range rise {
		for j, y := range rise {
			want := uint64(1)
			if i < j {
				want = 0
			} else if i > j {
				want = 2
			}
			hold(t, tx(set(0, x), set(1, y), three(api.OpCmp, 2, 0, 1), tell("k", 2)), nil, api.Effect{Steps: 5, Writes: wrote("k", n8(want))})
			hold(t, tx(set(0, x), set(1, y), three(api.OpCmp, 1, 0, 1), tell("k", 1)), nil, api.Effect{Steps: 5, Writes: wrote("k", n8(want))})
		}
	}
}

// P8.1: cat keeps the first 64 bytes.
func TestCat(t *testing.T) {
	for n := range 65 {
		for _, m := range []int{0, 1, 31, 32, 33, 63, 64} {
			x, y := strings.Repeat("x", n), strings.Repeat("y", m)
			want := x + y
			if len(want) > 64 {
				want = want[:64]
			}
			hold(t, tx(set(0, x), set(1, y), three(api.OpCat, 2, 0, 1), tell("k", 2), tell("l", 1)), nil, api.Effect{Steps: 7, Writes: wrote("k", want, "l", y)})
			hold(t, tx(set(0, x), set(1, y), three(api.OpCat, 1, 0, 1), tell("k", 1)), nil, api.Effect{Steps: 5, Writes: wrote("k", want)})
		}
	}
	hold(t, tx(set(0, "ab"), three(api.OpCat, 0, 0, 0), three(api.OpCat, 0, 0, 0), tell("k", 0)), nil, api.Effect{Steps: 5, Writes: wrote("k", "abababab")})
}

// P8.1: where a run goes on, and that what is passed over costs no step.
func TestPlaces(t *testing.T) {
	mark := tx(set(0, "k"), put(0, 0))
	done := api.Effect{Steps: 3, Writes: wrote("k", "k")}
	none := api.Effect{Steps: 1}
	hold(t, tx(jump(2), mark), nil, none)
	hold(t, tx(jump(1), mark[:1], set(1, "k"), put(1, 1)), nil, done)
	hold(t, tx(skip(1, 2), mark), nil, none)
	hold(t, tx(skip(1, 1), halt(), mark), nil, done)
	hold(t, tx(jump(59), slices.Repeat(halt(), 58), mark[:1]), nil, none)
	for _, zero := range []string{"", "\x00", n8(0), "a" + n8(0), "\x01" + n8(0), strings.Repeat("\x00", 64)} {
		hold(t, tx(set(1, zero), skip(1, 2), mark), nil, api.Effect{Steps: 2})
		hold(t, tx(set(1, zero), abort(1), mark), nil, api.Effect{Steps: 4, Writes: wrote("k", "k")})
	}
	for _, some := range []string{"\x01", "0", n8(1), n8(math.MaxUint64), n8(1 << 63), "\x00\x01\x00", long(64)} {
		hold(t, tx(set(1, some), skip(1, 2), mark), nil, api.Effect{Steps: 4, Writes: wrote("k", "k")})
		hold(t, tx(set(1, some), mark, abort(1)), nil, api.Effect{Why: api.EndAbort, Steps: 4})
	}
	hold(t, tx(mark, halt(), del(0)), nil, api.Effect{Steps: 3, Writes: wrote("k", "k")})
}

// P8.1: what is no key ends a run, at the step that wants one; what was read by then stays, what was written goes.
func TestKeys(t *testing.T) {
	ahead := tx(set(0, "a"), get(4, 0, 5), put(0, 0), set(6, "b"), scan(5, 6, 7, 1))
	read, seen := []string{"a"}, spans("b", "b\x00")
	for _, n := range []int{0, 1, 2, 31, 32, 33, 63, 64} {
		k := strings.Repeat("\x00", n)
		for _, x := range []struct {
			does   []api.Instr
			reads  []string
			writes []api.Write
		}{
			{get(1, 2, 3), []string{k, "a"}, wrote("a", "a")},
			{put(2, 0), read, wrote(k, "a", "a", "a")},
			{del(2), read, append([]api.Write{{K: k, Del: true}}, wrote("a", "a")...)},
		} {
			want := api.Effect{Why: api.EndKey, Steps: 8, Reads: read, Spans: seen}
			if n >= 1 && n <= 32 {
				want = api.Effect{Steps: 8, Reads: x.reads, Spans: seen, Writes: x.writes}
			}
			hold(t, tx(ahead, set(2, k), x.does), abc(), want)
		}
	}
}

// P8.1: what a get sees, and that only what it asks the state counts as read.
func TestGet(t *testing.T) {
	a := tx(set(0, "a"), get(1, 0, 2), tell("v", 1), tell("w", 2))
	hold(t, a, abc(), api.Effect{Steps: 6, Reads: []string{"a"}, Writes: wrote("v", "1", "w", n8(1))})
	hold(t, a, nil, api.Effect{Steps: 6, Reads: []string{"a"}, Writes: wrote("v", "", "w", n8(0))})
	hold(t, a, of("a", ""), api.Effect{Steps: 6, Reads: []string{"a"}, Writes: wrote("v", "", "w", n8(1))})
	hold(t, a, of("a", long(64)), api.Effect{Steps: 6, Reads: []string{"a"}, Writes: wrote("v", long(64), "w", n8(1))})

	hold(t, tx(set(0, "a"), put(0, 3), get(1, 0, 2), tell("v", 1), tell("w", 2)), abc(), api.Effect{Steps: 7, Writes: wrote("a", "", "v", "", "w", n8(1))})
	hold(t, tx(set(0, "a"), del(0), set(1, "x"), get(1, 0, 2), tell("v", 1), tell("w", 2)), abc(),
		api.Effect{Steps: 8, Writes: append([]api.Write{{K: "a", Del: true}}, wrote("v", "", "w", n8(0))...)})

	hold(t, tx(set(0, "a"), get(0, 0, 2), tell("v", 0)), abc(), api.Effect{Steps: 4, Reads: []string{"a"}, Writes: wrote("v", "1")})
	hold(t, tx(set(0, "a"), get(1, 0, 1), tell("v", 1)), abc(), api.Effect{Steps: 4, Reads: []string{"a"}, Writes: wrote("v", n8(1))})
	hold(t, tx(set(0, "a"), get(0, 0, 0), tell("v", 0)), nil, api.Effect{Steps: 4, Reads: []string{"a"}, Writes: wrote("v", n8(0))})

	hold(t, tx(set(0, "c"), get(1, 0, 2), get(1, 0, 2), set(3, "a"), get(1, 3, 2), put(0, 0), get(1, 0, 2)), abc(),
		api.Effect{Steps: 7, Reads: []string{"a", "c"}, Writes: wrote("c", "c")})
}

// P8.1: of each key the last write counts, whether it changes anything or not; they rise.
func TestWrites(t *testing.T) {
	l := tx(tell("c", 0), tell("a", 7), tell("b", 7), set(0, "1"), tell("a", 0), set(7, "c"), del(7), set(6, "x"), del(6), set(5, "b"), del(5), put(5, 0))
	hold(t, l, abc(), api.Effect{Steps: 16, Writes: []api.Write{{K: "a", V: "1"}, {K: "b", V: "1"}, {K: "c", Del: true}, {K: "x", Del: true}}})
	hold(t, tx(tell("\xff", 0), tell("\x80", 0), tell("\x7f", 0), tell("\x00", 0)), nil, api.Effect{Steps: 8, Writes: wrote("\x00", "", "\x7f", "", "\x80", "", "\xff", "")})
}
