package span_test

import (
	"math/rand/v2"
	"slices"
	"strconv"
	"strings"
	"testing"

	"retcon/api"
	"retcon/span"
)

func seeded() *rand.Rand { return rand.New(rand.NewPCG(3, 4)) }

// someOf are up to n out of all, some of them more than once.
func someOf(r *rand.Rand, all []api.Span, n int) []api.Span {
	l := make([]api.Span, r.IntN(n+1))
	for i := range l {
		l[i] = all[r.IntN(len(all))]
	}
	return l
}

// short are the spans with an end that is not far: of many of them some are left beside one another.
func short() []api.Span {
	var l []api.Span
	at := texts()
	slices.Sort(at)
	for i := range at {
		for j := i; j < min(i+3, len(at)); j++ {
			l = append(l, s(at[i], at[j]))
		}
	}
	return l
}

// hasKey is whether a key is in one of some, by the words of the document.
func hasKey(l []api.Span, k string) bool {
	for _, x := range l {
		if in(x, k) {
			return true
		}
	}
	return false
}

// isJoined is whether spans are joined, by the words of the document.
func isJoined(l []api.Span) bool {
	for i, x := range l {
		if x.Hi != "" && !less(x.Lo, x.Hi) {
			return false
		}
		if i > 0 && (!less(l[i-1].Lo, x.Lo) || l[i-1].Hi == "" || !less(l[i-1].Hi, x.Lo)) {
			return false
		}
	}
	return true
}

// holdJoin tells whether what Join tells of a list is joined, and has the same keys.
func holdJoin(t *testing.T, l []api.Span, keys []string) []api.Span {
	t.Helper()
	got := span.Join(l)
	if !isJoined(got) {
		t.Fatalf("%q: %q is not joined", l, got)
	}
	for _, k := range keys {
		if hasKey(got, k) != hasKey(l, k) {
			t.Fatalf("%q: %q: the key %q", l, got, k)
		}
	}
	return got
}

// P3.3: the examples of the chapter, and others of their kind.
func TestExamplesOfJoin(t *testing.T) {
	for _, x := range []struct{ l, want []api.Span }{
		{[]api.Span{s("c", "d"), s("a", "b"), s("b", "c"), s("e", "e"), s("f", "")}, []api.Span{s("a", "d"), s("f", "")}},
		{nil, nil},
		{[]api.Span{}, nil},
		{[]api.Span{s("b", "a"), s("c", "c")}, nil},
		{[]api.Span{s("", "")}, []api.Span{s("", "")}},
		{[]api.Span{s("a", "b")}, []api.Span{s("a", "b")}},
		{[]api.Span{s("a", "b"), s("a", "b")}, []api.Span{s("a", "b")}},
		{[]api.Span{s("a", "b"), s("b\x00", "c")}, []api.Span{s("a", "b"), s("b\x00", "c")}}, // b is in neither
		{[]api.Span{s("a", "b\x00"), s("b\x00", "c")}, []api.Span{s("a", "c")}},
		{[]api.Span{s("a", "e"), s("b", "c")}, []api.Span{s("a", "e")}},
		{[]api.Span{s("a", "c"), s("b", "e")}, []api.Span{s("a", "e")}},
		{[]api.Span{s("a", "e"), s("b", "e")}, []api.Span{s("a", "e")}},
		{[]api.Span{s("a", "c"), s("a", "e"), s("a", "b")}, []api.Span{s("a", "e")}},
		{[]api.Span{s("a", "c"), s("a", "")}, []api.Span{s("a", "")}},
		{[]api.Span{s("a", ""), s("b", "c"), s("z", "")}, []api.Span{s("a", "")}},
		{[]api.Span{s("a", "c"), s("b", "")}, []api.Span{s("a", "")}},
		{[]api.Span{s("a", "b"), s("b", "")}, []api.Span{s("a", "")}},
		{[]api.Span{s("b", ""), s("", "a")}, []api.Span{s("", "a"), s("b", "")}},
		{[]api.Span{s("b", ""), s("", "a"), s("a", "b")}, []api.Span{s("", "")}},
		{[]api.Span{s("a", "b"), s("d", "c"), s("e", "f")}, []api.Span{s("a", "b"), s("e", "f")}}, // an empty one joins nothing
		{[]api.Span{s("a", "b"), s("b", "b"), s("b\x00", "c")}, []api.Span{s("a", "b"), s("b\x00", "c")}},
	} {
		if got := span.Join(x.l); !slices.Equal(got, x.want) {
			t.Errorf("%q: %q, want %q", x.l, got, x.want)
		}
	}
}

// P3.3: the examples of the chapter, and others of their kind.
func TestExamplesOfCovers(t *testing.T) {
	for _, x := range []struct {
		l    []api.Span
		s    api.Span
		want bool
	}{
		{[]api.Span{s("a", "b"), s("b", "c")}, s("a", "c"), true},
		{[]api.Span{s("a", "b"), s("c", "d")}, s("a", "d"), false},
		{[]api.Span{s("b", "c"), s("a", "b")}, s("a", "c"), true},
		{nil, s("b", "a"), true},
		{nil, s("b", "b"), true},
		{nil, s("", ""), false},
		{nil, s("a", "b"), false},
		{[]api.Span{s("b", "a")}, s("d", "c"), true},
		{[]api.Span{s("a", "b")}, s("a", ""), false},
		{[]api.Span{s("a", "")}, s("a", ""), true},
		{[]api.Span{s("a", "")}, s("", ""), false},
		{[]api.Span{s("", "")}, s("", ""), true},
		{[]api.Span{s("", "")}, s("x", ""), true},
		{[]api.Span{s("a", "c"), s("b", "")}, s("a", ""), true},
		{[]api.Span{s("a", "b"), s("b\x00", "c")}, s("a", "c"), false},
		{[]api.Span{s("a", "b"), s("b\x00", "c")}, s("a", "b"), true},
		{[]api.Span{s("a", "b"), s("b\x00", "c")}, s("b\x00", "c"), true},
		{[]api.Span{s("a", "b"), s("b\x00", "c")}, s("b", "c"), false},
		{[]api.Span{s("a", "b"), s("b\x00", "c"), s("b", "b\x00")}, s("a", "c"), true},
	} {
		if got := span.Covers(x.l, x.s); got != x.want {
			t.Errorf("%q covers %q: %v", x.l, x.s, got)
		}
	}
}

// P3.3: Has, of none, one and two that are any.
func TestHas(t *testing.T) {
	for _, k := range probes() {
		if span.Has(nil, k) || span.Has([]api.Span{}, k) {
			t.Errorf("none has %q", k)
		}
	}
	r := seeded()
	all, near, keys := spans(), short(), probes()
	for range 5000 {
		for _, l := range [][]api.Span{someOf(r, all, 3), someOf(r, near, 8)} {
			k := keys[r.IntN(len(keys))]
			if span.Has(l, k) != hasKey(l, k) || span.Has(span.Join(l), k) != hasKey(l, k) {
				t.Fatalf("%q has %q: want %v", l, k, hasKey(l, k))
			}
		}
	}
}

// P3.3: Join of all pairs of spans, in both orders.
func TestJoinPairs(t *testing.T) {
	all, keys := spans(), texts()
	for i, a := range all {
		for _, b := range all[i:] {
			got := holdJoin(t, []api.Span{a, b}, keys)
			if other := span.Join([]api.Span{b, a}); !slices.Equal(got, other) {
				t.Fatalf("%q, %q: %q; the other way %q", a, b, got, other)
			}
		}
	}
}

// P3.3, P3.4: Join of many: joined, the same keys, the same whatever the order, its own; and nothing by a list twice over.
func TestJoinMany(t *testing.T) {
	r := seeded()
	all, near, keys := spans(), short(), probes()
	most := 0
	for range 3000 {
		for _, l := range [][]api.Span{someOf(r, all, 4), someOf(r, near, 20)} {
			got := holdJoin(t, l, keys)
			most = max(most, len(got))
			if own := span.Join(got); !slices.Equal(own, got) {
				t.Fatalf("%q: %q, again %q", l, got, own)
			}
			mixed := append(slices.Clone(l), l...)
			r.Shuffle(len(mixed), func(i, j int) { mixed[i], mixed[j] = mixed[j], mixed[i] })
			if other := span.Join(mixed); !slices.Equal(other, got) {
				t.Fatalf("%q: %q; in the order %q: %q", l, got, mixed, other)
			}
		}
	}
	if most < 4 {
		t.Errorf("at most %d were left beside one another: too few to tell", most)
	}
}

// P3.3: Covers, of one and of many that are any.
func TestCovers(t *testing.T) {
	r := seeded()
	all, near, keys := spans(), short(), probes()
	told := map[bool]int{}
	hold := func(l []api.Span, x api.Span) {
		want := true
		for _, k := range keys {
			want = want && (!in(x, k) || hasKey(l, k))
		}
		if span.Covers(l, x) != want {
			t.Fatalf("%q covers %q: want %v", l, x, want)
		}
		told[want]++
	}
	for _, a := range all {
		for range 40 {
			hold([]api.Span{a}, all[r.IntN(len(all))])
		}
	}
	for range 20000 {
		hold(someOf(r, all, 4), all[r.IntN(len(all))])
		hold(someOf(r, near, 20), near[r.IntN(len(near))])
	}
	if told[true] < 1000 || told[false] < 1000 {
		t.Error(told)
	}
}

// P3.3, P3.4: a list covers each of its own and of what it is joined to; and what is joined covers what the list does.
func TestCoversItsOwn(t *testing.T) {
	r := seeded()
	near := short()
	for range 2000 {
		l := someOf(r, near, 12)
		joined := span.Join(l)
		for _, x := range slices.Concat(l, joined) {
			if !span.Covers(l, x) || !span.Covers(joined, x) {
				t.Fatalf("%q, joined %q: %q", l, joined, x)
			}
		}
		x := near[r.IntN(len(near))]
		if span.Covers(l, x) != span.Covers(joined, x) {
			t.Fatalf("%q, joined %q: %q", l, joined, x)
		}
	}
}

// P3.3 (rule 4): a list that is handed in stays as it was, with its spare room, and what is told shares nothing with it or with another answer.
func TestMemory(t *testing.T) {
	mark := s("mark", "mark")
	for _, l := range [][]api.Span{
		{},
		{s("a", "b")},
		{s("b", "a")},
		{s("a", "b"), s("c", "d"), s("e", "f")},
		{s("e", "f"), s("c", "d"), s("a", "b"), s("x", "x"), s("b", "c")},
		{s("e", ""), s("a", "b"), s("a", "b")},
	} {
		room := append(slices.Clone(l), s("a", ""), s("", "b"), s("m", "n"))
		before := slices.Clone(room)
		given := room[:len(l)]
		got, other := span.Join(given), span.Join(given)
		if !slices.Equal(got, span.Join(l)) || span.Has(given, "zzz") != hasKey(l, "zzz") || span.Covers(given, s("", "a")) {
			t.Errorf("%q: spare room was read: %q", l, got)
		}
		want := slices.Clone(got)
		for i := range got[:cap(got)] {
			got[:cap(got)][i] = mark
		}
		if !slices.Equal(room, before) {
			t.Errorf("%q: changed to %q", before, room)
		}
		for i := range room {
			room[i] = mark
		}
		if !slices.Equal(other, want) {
			t.Errorf("%q: told %q, later %q", before, want, other)
		}
	}
}

// P3.3: many spans, in an order that is far from theirs: some that touch, some that do not.
func TestLongLists(t *testing.T) {
	const n = 100000
	name := func(i int) string {
		d := strconv.Itoa(i)
		return strings.Repeat("0", 7-len(d)) + d
	}
	var touching, apart []api.Span
	for i := range n {
		j := i * 7919 % n
		touching = append(touching, s(name(j), name(j+1)))
		apart = append(apart, s(name(2*j), name(2*j+1)))
	}
	if got := span.Join(touching); !slices.Equal(got, []api.Span{s(name(0), name(n))}) {
		t.Errorf("%d are left of those that touch", len(got))
	}
	got := span.Join(apart)
	if len(got) != n {
		t.Fatalf("%d are left of those that do not", len(got))
	}
	for i, x := range got {
		if x != s(name(2*i), name(2*i+1)) {
			t.Fatalf("%d: %q", i, x)
		}
	}
	if !span.Covers(touching, s(name(0), name(n))) || span.Covers(touching, s(name(0), name(n)+"\x00")) || span.Covers(apart, s(name(0), name(2))) {
		t.Error("covers")
	}
}
