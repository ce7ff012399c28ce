package cell_test

import (
	"maps"
	"slices"
	"testing"

	"retcon/api"
	"retcon/cell"
	"retcon/keys"
)

func put(k, v string) api.Write                                  { return api.Write{K: k, V: v} }
func del(k string) api.Write                                     { return api.Write{K: k, Del: true} }
func all(w ...api.Write) []api.Write                             { return w }
func equal(a, b []api.Write) bool                                { return slices.Equal(a, b) }
func apply(l []api.Pair, w ...api.Write) ([]api.Pair, api.Errno) { return cell.Apply(l, w) }

// P7.3: the examples of the chapter.
func TestExamplesOfWrites(t *testing.T) {
	l := of("a", "1", "b", "2", "d", "4")
	if got, err := apply(l, put("c", "3"), del("a")); !slices.Equal(got, of("b", "2", "c", "3", "d", "4")) || err != api.OK {
		t.Errorf("Apply: %q, %v", got, err)
	}
	if got, err := apply(l, put("", "")); len(got) > 0 || err != api.ErrArg {
		t.Errorf("Apply of an empty key: %q, %v", got, err)
	}
	other := of("b", "2", "c", "3", "d", "5")
	if got := cell.Diff(l, other); !equal(got, all(del("a"), put("c", "3"), put("d", "5"))) {
		t.Errorf("Diff: %v", got)
	}
	if got := cell.Changed(l, other); !slices.Equal(got, []string{"a", "c", "d"}) {
		t.Errorf("Changed: %q", got)
	}
}

// P7.3: which writes may be, wherever one stands among others, and whether it would change anything or not.
func TestWritesThatMayBe(t *testing.T) {
	may := all(put("a", ""), put("a", "1"), put("\x00", "\x00"), put(long(32), long(64)), del("a"), del("x"), del(long(32)))
	mayNot := all(put("", ""), put("", "1"), put(long(33), "1"), put("a", long(65)), put("x", long(1000)), del(""), del(long(33)), api.Write{K: "a", V: "1", Del: true}, api.Write{K: "x", V: "1", Del: true}, api.Write{K: "a", V: long(65), Del: true})
	for _, l := range [][]api.Pair{nil, of("a", "1"), of("a", "1", "b", "2"), row(65536)} {
		for _, w := range may {
			if _, err := apply(l[:min(len(l), 65535)], w); err != api.OK {
				t.Errorf("%d pairs, %+v: %v", len(l), w, err)
			}
		}
		for _, w := range mayNot {
			for _, rest := range [][]api.Write{all(w), all(w, put("a", "1")), all(put("a", "1"), w), all(put("x", ""), w, del("x")), all(put("y", "2"), put("x", ""), w)} {
				if got, err := cell.Apply(l, rest); len(got) > 0 || err != api.ErrArg {
					t.Errorf("%d pairs, %+v: %q, %v", len(l), rest, got, err)
				}
			}
		}
	}
}

// behind is the state behind writes, one by one, by the words of the document.
func behind(l []api.Pair, w []api.Write) []api.Pair {
	for _, x := range w {
		var next []api.Pair
		for _, p := range l {
			if less(p.K, x.K) {
				next = append(next, p)
			}
		}
		if !x.Del {
			next = append(next, api.Pair{K: x.K, V: x.V})
		}
		for _, p := range l {
			if less(x.K, p.K) {
				next = append(next, p)
			}
		}
		l = next
	}
	return l
}

func holdApply(t *testing.T, l []api.Pair, w []api.Write) {
	t.Helper()
	got, err := cell.Apply(l, w)
	if want := behind(l, w); !slices.Equal(got, want) || err != api.OK {
		t.Fatalf("%q behind %+v: %q, %v; want %q", l, w, got, err, want)
	}
	if !isState(got) {
		t.Fatalf("%q behind %+v: %q is no state", l, w, got)
	}
}

// P7.3: Apply of all lists of at most three writes, to all small states: ahead of all pairs, between, on them, behind.
func TestApply(t *testing.T) {
	var some []api.Write
	for _, k := range []string{"a", "a\x00", "c"} {
		some = append(some, put(k, ""), put(k, "1"), del(k))
	}
	for _, l := range states([]string{"A", "a", "b", "c"}) {
		for _, w := range lists(some, 3) {
			holdApply(t, l, w)
		}
	}
}

// P7.3: Apply of many writes, of few keys and of many.
func TestApplyMany(t *testing.T) {
	r := seeded()
	for n := range 4000 {
		l := row(r.IntN(30))
		w := make([]api.Write, r.IntN(40))
		for i := range w {
			k := name(r.IntN(4 + n%80))
			if w[i] = del(k); r.IntN(3) > 0 {
				w[i] = put(k, name(r.IntN(3)))
			}
		}
		holdApply(t, l, w)
		half := len(w) / 2
		ahead, _ := cell.Apply(l, w[:half])
		parts, _ := cell.Apply(ahead, w[half:])
		if whole, _ := cell.Apply(l, w); !slices.Equal(parts, whole) {
			t.Fatalf("%q behind %+v, in two parts: %q, want %q", l, w, parts, whole)
		}
	}
}

// P7.3: what is no state is told ahead of a write that may not be, and that ahead of a state that would be too great.
func TestApplyToNoState(t *testing.T) {
	for _, l := range append(lists(parts(), 3), make([]api.Pair, 65536), make([]api.Pair, 65537), row(65537)) {
		want := cell.Check(l)
		if want == api.OK {
			continue
		}
		for _, w := range [][]api.Write{nil, all(put("a", "1")), all(put("", "")), all(del("a"), del("b"))} {
			if got, err := cell.Apply(l, w); len(got) > 0 || err != want {
				t.Fatalf("%d pairs, %+v: %q, %v; want %v", len(l), w, got, err, want)
			}
		}
	}
	if got, err := cell.Apply(row(65536), all(put("a", "1"), put("b", ""), put("b", long(65)))); len(got) > 0 || err != api.ErrArg {
		t.Errorf("full, and a write that may not be: %q, %v", got, err)
	}
}

// P7.3: about as many pairs as may be: it counts how many there are behind all writes, not between them.
func TestApplyToMany(t *testing.T) {
	full, twice := row(65536), row(131072)
	first, last := full[0].K, full[65535].K
	for i, x := range []struct {
		l    []api.Pair
		w    []api.Write
		size int
		err  api.Errno
	}{
		{full, nil, 65536, api.OK},
		{full, all(put(first, "x"), put(last, "y"), put(last, "z")), 65536, api.OK},
		{full, all(put("x", "")), 0, api.ErrLong},
		{full, all(put(" ", ""), put("x", "")), 0, api.ErrLong},
		{full, all(del(first)), 65535, api.OK},
		{full, all(del("x")), 65536, api.OK},
		{full, all(del(first), put("x", "")), 65536, api.OK},
		{full, all(put("x", ""), del(first)), 65536, api.OK},
		{full, all(put("x", ""), put("y", ""), del(last), del(first)), 65536, api.OK},
		{full, all(put("x", ""), put("y", ""), del(last)), 0, api.ErrLong},
		{full, all(put("x", ""), del("x")), 65536, api.OK},
		{full, all(del("x"), put("x", "")), 0, api.ErrLong},
		{full, all(del(first), put(first, "")), 65536, api.OK},
		{full[1:], all(put(first, ""), put(first, "x")), 65536, api.OK},
		{full[1:], all(put(first, ""), put("x", "")), 0, api.ErrLong},
		{full, writesTo(full), 65536, api.OK},
		{nil, writesTo(full), 65536, api.OK},
		{nil, append(writesTo(full), put("x", "")), 0, api.ErrLong},
		{nil, writesTo(twice), 0, api.ErrLong},
		{full, append(writesTo(twice), deletes(full)...), 65536, api.OK},
		{full, deletes(full), 0, api.OK},
	} {
		got, err := cell.Apply(x.l, x.w)
		if len(got) != x.size || err != x.err {
			t.Errorf("%d: %d, %v; want %d, %v", i, len(got), err, x.size, x.err)
		}
		if err == api.OK && !slices.Equal(got, leftOf(x.l, x.w)) {
			t.Errorf("%d: not the state behind the writes", i)
		}
	}
}

// leftOf is the state behind writes, by a map: behind tells it by the words of the document, but is slow.
func leftOf(l []api.Pair, w []api.Write) []api.Pair {
	m := map[string]string{}
	for _, p := range l {
		m[p.K] = p.V
	}
	for _, x := range w {
		if m[x.K] = x.V; x.Del {
			delete(m, x.K)
		}
	}
	var left []api.Pair
	for _, k := range slices.Sorted(maps.Keys(m)) {
		left = append(left, api.Pair{K: k, V: m[k]})
	}
	return left
}

// writesTo are puts of pairs, more than a state may have too.
func writesTo(l []api.Pair) []api.Write {
	var w []api.Write
	for _, p := range l {
		w = append(w, put(p.K, p.V))
	}
	return w
}

// deletes are what makes pairs go, the last one first.
func deletes(l []api.Pair) []api.Write {
	var w []api.Write
	for _, p := range l {
		w = append(w, del(p.K))
	}
	slices.Reverse(w)
	return w
}

// differ are the writes that lead from one to the other, by the words of the document: of all keys of either, each that has not the same value in both, or is in one alone.
func differ(a, b []api.Pair) []api.Write {
	var names []string
	for _, p := range slices.Concat(a, b) {
		names = append(names, p.K)
	}
	var told []api.Write
	for _, k := range keys.Sort(names) {
		was, before := held(a, k)
		is, now := held(b, k)
		switch {
		case !now:
			told = append(told, del(k))
		case !before || was != is:
			told = append(told, put(k, is))
		}
	}
	return told
}

// holdDiff holds what is told of two states against the chapter's words, and against what follows from them.
func holdDiff(t *testing.T, a, b []api.Pair) {
	t.Helper()
	got, changed := cell.Diff(a, b), cell.Changed(a, b)
	if want := differ(a, b); !equal(got, want) {
		t.Fatalf("%q to %q: %+v, want %+v", a, b, got, want)
	}
	if len(changed) != len(got) || !keys.Check(changed) {
		t.Fatalf("%q to %q: %q, of %+v", a, b, changed, got)
	}
	for i, w := range got {
		if w.K != changed[i] {
			t.Fatalf("%q to %q: %q, of %+v", a, b, changed, got)
		}
	}
	if led, err := cell.Apply(a, got); !slices.Equal(led, b) || err != api.OK {
		t.Fatalf("%q to %q: %+v leads to %q, %v", a, b, got, led, err)
	}
	if other := cell.Changed(b, a); !slices.Equal(other, changed) {
		t.Fatalf("%q, %q: %q, the other way %q", a, b, changed, other)
	}
}

// P7.3, P7.4: Diff and Changed of all pairs of small states.
func TestDiff(t *testing.T) {
	some := states([]string{"\x00", "a", "a\x00", "b"})
	for _, a := range some {
		for _, b := range some {
			holdDiff(t, a, b)
		}
	}
}

// P7.3, P7.4: the same of longer ones, that have some in common and are cut off anywhere.
func TestDiffOfLonger(t *testing.T) {
	r := seeded()
	some := func(n int) []api.Pair {
		var l []api.Pair
		for _, p := range row(n) {
			if r.IntN(3) > 0 {
				l = append(l, api.Pair{K: p.K, V: long(r.IntN(2) * 64)})
			}
		}
		return l
	}
	for range 4000 {
		holdDiff(t, some(r.IntN(30)), some(r.IntN(30)))
	}
}

// P7.3, P7.4: as many pairs as may be: none in common, all, and all but some.
func TestDiffOfMany(t *testing.T) {
	full := row(65536)
	var evens, odds []api.Pair
	for i, p := range full {
		if i%2 == 0 {
			evens = append(evens, p)
		} else {
			odds = append(odds, p)
		}
	}
	for i, x := range []struct {
		a, b []api.Pair
		dels int
		puts int
	}{
		{full, full, 0, 0},
		{full, nil, 65536, 0},
		{nil, full, 0, 65536},
		{evens, odds, 32768, 32768},
		{full, evens, 32768, 0},
		{odds, full, 0, 32768},
	} {
		d := cell.Diff(x.a, x.b)
		dels := 0
		for _, w := range d {
			if w.Del {
				dels++
			}
		}
		if led, err := cell.Apply(x.a, d); dels != x.dels || len(d) != x.dels+x.puts || !slices.Equal(led, x.b) || err != api.OK {
			t.Errorf("%d: %d gone of %d, to %d pairs, %v", i, dels, len(d), len(led), err)
		}
	}
}

// P7.3: there is none, if either is no state, or both.
func TestDiffOfNoState(t *testing.T) {
	others := [][]api.Pair{nil, of("a", "1"), of("a", "1", "b", "2"), of("b", "", "a", "")}
	wrong := 0
	for _, l := range append(lists(parts(), 3), make([]api.Pair, 65536), make([]api.Pair, 65537), row(65537)) {
		if isState(l) {
			continue
		}
		wrong++
		for _, other := range slices.Concat(others, [][]api.Pair{l}) {
			if d, c := cell.Diff(l, other), cell.Changed(l, other); len(d) > 0 || len(c) > 0 {
				t.Fatalf("%d pairs to %q: %+v, %q", len(l), other, d, c)
			}
			if d, c := cell.Diff(other, l), cell.Changed(other, l); len(d) > 0 || len(c) > 0 {
				t.Fatalf("%q to %d pairs: %+v, %q", other, len(l), d, c)
			}
		}
	}
	if wrong < 100 {
		t.Error(wrong)
	}
}
