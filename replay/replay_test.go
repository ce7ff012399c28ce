package replay_test

import (
	"math"
	"slices"
	"strings"
	"testing"

	"retcon/api"
	"retcon/replay"
)

// tx is a transaction, each of whose parts is an instruction or some.
func tx(parts ...[]api.Instr) []api.Instr { return slices.Concat(parts...) }

func log(l ...[]api.Instr) [][]api.Instr { return l }

func one(i api.Instr) []api.Instr { return []api.Instr{i} }

func set(a int, s string) []api.Instr { return one(api.Instr{Op: api.OpSet, A: a, S: s}) }

// put is a transaction that lays a value under a key, del one by which a key goes.
func put(k, v string) []api.Instr {
	return tx(set(0, k), set(1, v), one(api.Instr{Op: api.OpPut, A: 0, B: 1}))
}

func del(k string) []api.Instr { return tx(set(0, k), one(api.Instr{Op: api.OpDel, A: 0})) }

// move is a transaction that lays the value of one key under another one.
func move(from, to string) []api.Instr {
	return tx(set(0, from), one(api.Instr{Op: api.OpGet, A: 1, B: 0, C: 2}), set(0, to), one(api.Instr{Op: api.OpPut, A: 0, B: 1}))
}

// last is a transaction that lays under a key the last one of a span, that is, of those that are found: at most so many.
func last(lo, hi string, n int, to string) []api.Instr {
	return tx(set(0, lo), set(1, hi), one(api.Instr{Op: api.OpScan, A: 2, B: 0, C: 1, N: n}), set(0, to), one(api.Instr{Op: api.OpPut, A: 0, B: 2}))
}

// aborted is a transaction that ends by what it says behind its instructions.
func aborted(l []api.Instr) []api.Instr {
	return tx(l, set(7, "1"), one(api.Instr{Op: api.OpAbort, A: 7}))
}

// of is pairs, written as keys and values in turn.
func of(kv ...string) []api.Pair {
	var l []api.Pair
	for i := 0; i < len(kv); i += 2 {
		l = append(l, api.Pair{K: kv[i], V: kv[i+1]})
	}
	return l
}

// puts is writes, written as keys and values in turn.
func puts(kv ...string) []api.Write {
	var l []api.Write
	for _, p := range of(kv...) {
		l = append(l, api.Write{K: p.K, V: p.V})
	}
	return l
}

func long(n int) string { return strings.Repeat("k", n) }

// name is a key of a number, such that names rise as the numbers do.
func name(i int) string {
	return string([]byte{byte('0' + i/10000), byte('0' + i/1000%10), byte('0' + i/100%10), byte('0' + i/10%10), byte('0' + i%10)})
}

// row is a state of so many pairs.
func row(n int) []api.Pair {
	l := make([]api.Pair, n)
	for i := range l {
		l[i] = api.Pair{K: name(i), V: "1"}
	}
	return l
}

// equal is whether two effects are the same; nil and empty lists are.
func equal(x, y api.Effect) bool {
	return x.Why == y.Why && x.Steps == y.Steps && slices.Equal(x.Reads, y.Reads) && slices.Equal(x.Spans, y.Spans) && slices.Equal(x.Writes, y.Writes)
}

func same(a, b []api.Effect) bool { return slices.EqualFunc(a, b, equal) }

// The transactions of the chapter's examples.
func a() []api.Instr { return tx(set(0, "a"), one(api.Instr{Op: api.OpPut})) }
func b() []api.Instr { return move("a", "b") }

// The examples of the chapter.
func TestExamples(t *testing.T) {
	ab := log(a(), b())
	came, err := replay.All(ab)
	if want := []api.Effect{{Steps: 2, Writes: puts("a", "a")}, {Steps: 4, Reads: []string{"a"}, Writes: puts("b", "a")}}; !same(came, want) || err != api.OK {
		t.Errorf("%+v, %v", came, err)
	}
	for n, want := range map[int][]api.Pair{2: of("a", "a", "b", "a"), 1: of("a", "a"), 0: nil} {
		if s, err := replay.State(ab, n); !slices.Equal(s, want) || err != api.OK {
			t.Errorf("%d: %q, %v", n, s, err)
		}
	}
	if s, err := replay.State(ab, 3); s != nil || err != api.ErrRange {
		t.Errorf("%q, %v", s, err)
	}
	came, s, err := replay.From(of("a", "x"), log(b()))
	if want := []api.Effect{{Steps: 4, Reads: []string{"a"}, Writes: puts("b", "x")}}; !same(came, want) || !slices.Equal(s, of("a", "x", "b", "x")) || err != api.OK {
		t.Errorf("%+v, %q, %v", came, s, err)
	}
}

// The transactions that may not be, by the error that is told of each.
func bad() map[api.Errno][]api.Instr {
	return map[api.Errno][]api.Instr{
		api.ErrArg:   one(api.Instr{}),
		api.ErrRange: one(api.Instr{Op: api.OpJump, N: 1}),
		api.ErrLong:  slices.Repeat(one(api.Instr{Op: api.OpHalt}), 61),
	}
}

// holdRefused holds all that are asked of a log to one error.
func holdRefused(t *testing.T, l [][]api.Instr, want api.Errno) {
	t.Helper()
	if err := replay.Check(l); err != want {
		t.Errorf("Check of %d: %v, want %v", len(l), err, want)
	}
	for _, on := range [][]api.Pair{nil, of("a", "1"), of("b", "", "a", ""), make([]api.Pair, 65537)} {
		if came, s, err := replay.From(on, l); came != nil || s != nil || err != want {
			t.Errorf("From of %d: %+v, %q, %v, want %v", len(l), came, s, err, want)
		}
	}
	if came, err := replay.All(l); came != nil || err != want {
		t.Errorf("All of %d: %+v, %v, want %v", len(l), came, err, want)
	}
	for _, n := range []int{math.MinInt, -1, 0, 1, len(l), len(l) + 1, math.MaxInt} {
		if s, err := replay.State(l, n); s != nil || err != want {
			t.Errorf("State of %d, %d: %q, %v, want %v", len(l), n, s, err, want)
		}
	}
}

// P10.1, and that its error is told ahead of all others: of too many transactions, and of the first one that may not be, wherever it stands.
func TestLogsThatMayNotBe(t *testing.T) {
	for err, wrong := range bad() {
		for _, n := range []int{1, 2, 3, 499, 500} {
			for _, at := range []int{0, n / 2, n - 1} {
				l := slices.Repeat(log(a()), n)
				l[at] = wrong
				holdRefused(t, l, err)
			}
		}
		for _, n := range []int{501, 502, 1000} {
			l := make([][]api.Instr, n)
			holdRefused(t, l, api.ErrLong)
			l[0], l[n-1] = wrong, wrong
			holdRefused(t, l, api.ErrLong)
		}
		for _, other := range bad() {
			holdRefused(t, log(a(), wrong, other), err)
			holdRefused(t, log(wrong, a(), other, a()), err)
		}
	}
	holdRefused(t, log(a(), slices.Repeat(set(0, long(64)), 9)), api.ErrLong)
	holdRefused(t, log(a(), set(0, long(65))), api.ErrArg)
}

// P10.1: what may be.
func TestLogsThatMayBe(t *testing.T) {
	for _, l := range [][][]api.Instr{nil, {}, log(nil), log(nil, a()), log(a(), b(), a()), make([][]api.Instr, 499), make([][]api.Instr, 500), slices.Repeat(log(b()), 500), log(slices.Repeat(one(api.Instr{Op: api.OpHalt}), 60))} {
		if err := replay.Check(l); err != api.OK {
			t.Errorf("%d: %v", len(l), err)
		}
		came, s, err := replay.From(of("k", "1"), l)
		all, errAll := replay.All(l)
		if len(came) != len(l) || len(s) == 0 || len(all) != len(l) || err != api.OK || errAll != api.OK {
			t.Errorf("%d: %+v, %q, %v; %+v, %v", len(l), came, s, err, all, errAll)
		}
	}
}

// P10.2: what is no state is told, with a log and without one.
func TestStatesThatMayNotBe(t *testing.T) {
	for i, x := range []struct {
		on   []api.Pair
		want api.Errno
	}{
		{of("b", "", "a", ""), api.ErrArg},
		{of("a", "1", "a", "1"), api.ErrArg},
		{of("", ""), api.ErrArg},
		{of(long(33), ""), api.ErrArg},
		{of("a", long(65)), api.ErrArg},
		{make([]api.Pair, 65536), api.ErrArg},
		{make([]api.Pair, 65537), api.ErrLong},
		{row(65537), api.ErrLong},
	} {
		for _, l := range [][][]api.Instr{nil, {}, log(nil), log(a(), b()), log(put("0", "1"))} {
			if came, s, err := replay.From(x.on, l); came != nil || s != nil || err != x.want {
				t.Errorf("%d: %+v, %q, %v", i, came, s, err)
			}
		}
	}
}

// P10.2: no state may have more than 65,536 pairs, neither the last one nor one on the way; within a transaction there may be more.
func TestTooManyPairs(t *testing.T) {
	full, less := row(65536), row(65535)
	swap := tx(put("z", "1"), del("00000"))
	for i, x := range []struct {
		on   []api.Pair
		l    [][]api.Instr
		want int
	}{
		{full, nil, 65536},
		{full, log(put("00000", "2"), put("65535", "2"), move("00000", "00001")), 65536},
		{full, log(swap, swap), 65536},
		{full, log(aborted(put("z", "1")), del("z")), 65536},
		{full, log(del("00000"), put("z", "1")), 65536},
		{full, log(put("z", "1")), 0},
		{full, log(put("", "1"), put("0", "1")), 0},
		{full, log(put("z", "1"), del("z")), 0},
		{full, log(put("z", "1"), del("00000"), del("00001")), 0},
		{full, log(del("00000"), put("y", "1"), put("z", "1"), a()), 0},
		{less, log(put("z", "1")), 65536},
		{less, log(put("z", "1"), put("z", "2")), 65536},
		{less, log(put("y", "1"), put("z", "1")), 0},
		{less, log(tx(put("y", "1"), put("z", "1"))), 0},
		{less, log(tx(put("y", "1"), put("z", "1"), del("y"))), 65536},
	} {
		came, s, err := replay.From(x.on, x.l)
		if x.want == 0 && (came != nil || s != nil || err != api.ErrLong) || x.want > 0 && (len(came) != len(x.l) || len(s) != x.want || err != api.OK) {
			t.Errorf("%d: %+v, %d pairs, %v", i, came, len(s), err)
		}
	}
}

// P10.2: which places of a log there are.
func TestRangeOfState(t *testing.T) {
	for size := range 4 {
		l := slices.Repeat(log(a()), size)
		for _, n := range []int{math.MinInt, -2, -1, size + 1, size + 2, 501, math.MaxInt} {
			if s, err := replay.State(l, n); s != nil || err != api.ErrRange {
				t.Errorf("%d of %d: %q, %v", n, size, s, err)
			}
		}
		for n := range size + 1 {
			if s, err := replay.State(l, n); len(s) != min(n, 1) || err != api.OK {
				t.Errorf("%d of %d: %q, %v", n, size, s, err)
			}
		}
	}
}

// P10.2: a log of 500, each of which hangs on the one ahead.
func TestLongest(t *testing.T) {
	l := log(put(name(0), "x"))
	for i := range 499 {
		l = append(l, move(name(i), name(i+1)))
	}
	came, s, err := replay.From(of("a", "1"), l)
	if len(came) != 500 || len(s) != 501 || err != api.OK {
		t.Fatal(len(came), len(s), err)
	}
	for i, p := range s[:500] {
		if p.K != name(i) || p.V != "x" || !slices.Equal(came[i].Writes, puts(name(i), "x")) {
			t.Fatalf("%d: %q, %+v", i, p, came[i])
		}
	}
	for _, n := range []int{0, 1, 250, 499, 500} {
		if got, err := replay.State(l, n); !slices.Equal(got, s[:n]) || err != api.OK {
			t.Errorf("%d: %d pairs, %v", n, len(got), err)
		}
	}
}
