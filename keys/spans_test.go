package keys_test

import (
	"slices"
	"testing"

	"retcon/api"
	"retcon/keys"
	"retcon/span"
)

func s(lo, hi string) api.Span { return api.Span{Lo: lo, Hi: hi} }

func spansOf(l ...api.Span) []api.Span { return l }

// spans are all whose ends are out of few: empty ones and endless ones too.
func spans() []api.Span {
	var all []api.Span
	for _, lo := range few() {
		for _, hi := range few() {
			all = append(all, s(lo, hi))
		}
	}
	return all
}

// within is whether a key is in one of some spans, sentence by sentence as the document says it.
func within(l []api.Span, k string) bool {
	for _, x := range l {
		if !less(k, x.Lo) && (x.Hi == "" || less(k, x.Hi)) {
			return true
		}
	}
	return false
}

// P4.3: the examples of the chapter, and others of their kind.
func TestExamplesOfAmong(t *testing.T) {
	for _, x := range []struct {
		l    []string
		s    []api.Span
		want []string
	}{
		{words("a b c"), spansOf(s("b", "c")), words("b")},
		{words("z a b c b"), spansOf(s("b", "c"), s("x", "")), words("b z")},
		{words("c b a"), spansOf(s("", "")), words("a b c")},
		{words("c b a"), nil, nil},
		{words("c b a"), spansOf(s("b", "b"), s("c", "a")), nil},
		{nil, spansOf(s("", "")), nil},
		{[]string{"a", ""}, spansOf(s("", "a")), []string{""}},
		{[]string{"a", ""}, spansOf(s("\x00", "")), words("a")},
		{words("c b a"), spansOf(s("c", ""), s("a", "b")), words("a c")}, // of spans in any order
		{words("c b a"), spansOf(s("a", "c"), s("b", "c")), words("a b")},
		{words("c b a"), spansOf(s("a", "b"), s("b", "c")), words("a b")},
		{[]string{"b", "b\x00", "b\x00\x00", "b\x01"}, spansOf(s("b", "b\x00"), s("b\x00\x00", "b\x01")), []string{"b", "b\x00\x00"}},
		{words("bb"), spansOf(s("a", "z"), s("b", "ba")), words("bb")}, // beyond the last one that begins no later, and in one ahead of it
		{words("y"), spansOf(s("a", ""), s("b", "c"), s("x", "y")), words("y")},
	} {
		if got := keys.Among(x.l, x.s); !slices.Equal(got, x.want) {
			t.Errorf("%q among %q: %q, want %q", x.l, x.s, got, x.want)
		}
	}
}

// P4.3: the examples of the chapter, and others of their kind.
func TestExamplesOfMeets(t *testing.T) {
	for _, x := range []struct {
		l, some []string
		s       []api.Span
		want    bool
	}{
		{words("a"), words("b"), spansOf(s("a", "b")), true},
		{words("a"), words("b"), nil, false},
		{words("a"), words("a"), nil, true},
		{words("b a"), words("c a"), nil, true},
		{words("b"), words("b"), spansOf(s("a", "b")), true},
		{words("b"), words("c"), spansOf(s("a", "b")), false}, // Hi is not among them
		{words("c b"), words("a"), spansOf(s("a", "b"), s("c", "c")), false},
		{words("c b"), nil, spansOf(s("x", "z"), s("b", "c")), true},
		{words("zz"), nil, spansOf(s("b", "")), true},
		{nil, words("a"), spansOf(s("", "")), false},
		{nil, nil, nil, false},
		{[]string{""}, nil, nil, false},
		{[]string{""}, words("a"), nil, false},
		{[]string{""}, []string{""}, nil, true},
		{[]string{""}, nil, spansOf(s("", "")), true},
		{[]string{""}, nil, spansOf(s("\x00", "")), false},
		{nil, []string{""}, nil, false},
		{words("ab"), words("a"), spansOf(s("a", "a\x00")), false},
	} {
		if keys.Meets(x.l, x.some, x.s) != x.want {
			t.Errorf("%q meets %q, %q: %v", x.l, x.some, x.s, !x.want)
		}
	}
}

// holdSpans holds what is told of keys and spans against the chapter's words, and against what follows from them.
func holdSpans(t *testing.T, l, some []string, in []api.Span) bool {
	t.Helper()
	among := keys.Among(l, in)
	if want := setOf(func(k string) bool { return within(in, k) }, l); !slices.Equal(among, want) || !rises(among) {
		t.Fatalf("%q among %q: %q, want %q", l, in, among, want)
	}
	want := false
	for _, k := range l {
		want = want || has(some, k) || within(in, k)
	}
	if keys.Meets(l, some, in) != want {
		t.Fatalf("%q meets %q, %q: want %v", l, some, in, want)
	}
	if told := len(keys.Both(l, some)) > 0 || len(among) > 0; told != want {
		t.Fatalf("%q, %q, %q: told something %v, want %v", l, some, in, told, want)
	}
	return want
}

// P4.3, P4.4: Among and Meets, of each key and each span; a key is among just where span.Has says so.
func TestKeyAndSpan(t *testing.T) {
	for _, k := range few() {
		holdSpans(t, []string{k}, nil, nil)
		for _, x := range spans() {
			holdSpans(t, []string{k}, nil, spansOf(x))
			if (len(keys.Among([]string{k}, spansOf(x))) == 1) != span.Has(spansOf(x), k) {
				t.Fatalf("%q among %q", k, x)
			}
		}
	}
}

// P4.3, P4.4: all keys, and each alone, beside all pairs of spans.
func TestPairsOfSpans(t *testing.T) {
	for _, a := range spans() {
		for _, b := range spans() {
			holdSpans(t, few(), nil, spansOf(a, b))
			for _, k := range few() {
				holdSpans(t, []string{k}, nil, spansOf(a, b))
			}
		}
	}
}

// P4.3, P4.4: many keys, some and spans, such that as well some meet as some do not.
func TestManySpans(t *testing.T) {
	r := seeded()
	told := map[bool]int{}
	all := spans()
	for range 20000 {
		told[holdSpans(t, someOf(r, few(), 3), someOf(r, few(), 2), someOf(r, all, 2))]++
		told[holdSpans(t, someOf(r, few(), 8), someOf(r, few(), 5), someOf(r, all, 6))]++
	}
	if told[true] < 1000 || told[false] < 1000 {
		t.Error(told)
	}
}

// P4.3: nothing hangs on the order of spans, or on how often one is there.
func TestOrderOfSpans(t *testing.T) {
	r := seeded()
	all := spans()
	for range 3000 {
		l, some, in := someOf(r, few(), 8), someOf(r, few(), 2), someOf(r, all, 4)
		mixed := append(slices.Clone(in), in...)
		r.Shuffle(len(mixed), func(i, j int) { mixed[i], mixed[j] = mixed[j], mixed[i] })
		if !slices.Equal(keys.Among(l, in), keys.Among(l, mixed)) || keys.Meets(l, some, in) != keys.Meets(l, some, mixed) {
			t.Fatalf("%q, %q: %q, %q", l, some, in, mixed)
		}
	}
}
