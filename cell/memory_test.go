package cell_test

import (
	"slices"
	"testing"

	"retcon/api"
	"retcon/cell"
)

// overwrite marks all of a list, its spare room too.
func overwrite[T any](l []T, mark T) {
	l = l[:cap(l)]
	for i := range l {
		l[i] = mark
	}
}

func overwritePairs(l []api.Pair)   { overwrite(l, api.Pair{K: "mark", V: "mark"}) }
func overwriteWrites(l []api.Write) { overwrite(l, put("mark", "mark")) }

// told is what the calls answer of two states and writes.
type told struct {
	scan, apply []api.Pair
	diff        []api.Write
	changed     []string
	errs        [3]api.Errno
	value       string
	there       bool
}

func ask(a, b []api.Pair, w []api.Write) told {
	var x told
	x.scan = cell.Scan(a, s("", ""), 100)
	x.apply, x.errs[0] = cell.Apply(a, w)
	x.diff = cell.Diff(a, b)
	x.changed = cell.Changed(a, b)
	x.errs[1], x.errs[2] = cell.Check(a), cell.Check(b)
	x.value, x.there = cell.Get(a, "x")
	return x
}

func (x told) same(y told) bool {
	return slices.Equal(x.scan, y.scan) && slices.Equal(x.apply, y.apply) && equal(x.diff, y.diff) && slices.Equal(x.changed, y.changed) && x.errs == y.errs && x.value == y.value && x.there == y.there
}

// overwrite marks all that was told, with its spare room.
func (x told) overwrite() {
	overwritePairs(x.scan)
	overwritePairs(x.apply)
	overwriteWrites(x.diff)
	overwrite(x.changed, "mark")
}

// Rule 4: what is handed in stays as it was, its spare room is neither read nor written; what is told shares nothing with it, or with what is told else.
func TestMemory(t *testing.T) {
	some := states([]string{"a", "b", "c"})
	for _, a := range some {
		for _, b := range some {
			for _, w := range [][]api.Write{{}, all(put("b", "9")), all(del("a"), put("aa", "8"), put("d", "7"), del("d"))} {
				holdMemory(t, a, b, w)
			}
		}
	}
}

func holdMemory(t *testing.T, a, b []api.Pair, w []api.Write) {
	t.Helper()
	roomA := slices.Concat(a, of("x", "1", "y", "2", "z", "3"))
	roomB := slices.Concat(b, of("x", "4", "", "", "z", "6"))
	roomW := slices.Concat(w, all(put("x", "7"), put("", ""), del("b")))
	wasA, wasB, wasW := slices.Clone(roomA), slices.Clone(roomB), slices.Clone(roomW)
	givenA, givenB, givenW := roomA[:len(a)], roomB[:len(b)], roomW[:len(w)]
	want := ask(slices.Clip(slices.Clone(a)), slices.Clip(slices.Clone(b)), slices.Clip(slices.Clone(w)))
	one, two := ask(givenA, givenB, givenW), ask(givenA, givenB, givenW)
	if !one.same(want) || !two.same(want) {
		t.Fatalf("%q, %q, %+v: %+v, %+v; want %+v", a, b, w, one, two, want)
	}
	one.overwrite()
	if !slices.Equal(roomA, wasA) || !slices.Equal(roomB, wasB) || !equal(roomW, wasW) {
		t.Fatalf("changed to %q, %q, %+v from %q, %q, %+v", roomA, roomB, roomW, wasA, wasB, wasW)
	}
	overwritePairs(roomA)
	overwritePairs(roomB)
	overwriteWrites(roomW)
	if !two.same(want) {
		t.Fatalf("%q, %q, %+v: told %+v, later %+v", a, b, w, want, two)
	}
}

// Rule 4: so does a call that answers an error.
func TestMemoryOfErrors(t *testing.T) {
	l, w := of("a", "1", "b", "2"), all(put("a", "9"), del("b"), put("", ""))
	full := row(65536)
	cell.Apply(l, w)
	cell.Apply(full, all(put(full[0].K, "9"), put(" ", "")))
	cell.Apply(of("b", "", "a", ""), w)
	if !slices.Equal(l, of("a", "1", "b", "2")) || !equal(w, all(put("a", "9"), del("b"), put("", ""))) || !slices.Equal(full, row(65536)) {
		t.Errorf("changed to %q, %+v", l, w)
	}
}

// P1, rule 7: the same arguments, the same answers, each time: none hangs on the order of a map.
func TestSameCallsSameAnswers(t *testing.T) {
	r := seeded()
	a, b := row(300), row(400)[50:]
	var w []api.Write
	for range 500 {
		w = append(w, put(name(r.IntN(700)), name(r.IntN(5))), del(name(r.IntN(700))))
	}
	want := ask(a, b, w)
	if want.errs != [3]api.Errno{} || len(want.apply) < 300 {
		t.Fatal(want.errs, len(want.apply))
	}
	for range 30 {
		if got := ask(a, b, w); !got.same(want) {
			t.Fatalf("%+v, then %+v", want, got)
		}
	}
}

// P1: lists of nothing at all, and ends of numbers.
func TestCalm(t *testing.T) {
	none := ask(nil, nil, nil)
	if empty := ask([]api.Pair{}, []api.Pair{}, []api.Write{}); !none.same(empty) || !none.same(told{}) {
		t.Errorf("%+v, %+v", none, empty)
	}
	for _, most := range []int{-1 << 63, -1, 0, 1<<63 - 1} {
		if got := cell.Scan(nil, s("b", "a"), most); len(got) > 0 {
			t.Errorf("%d: %q", most, got)
		}
	}
}
