package keys_test

import (
	"math/rand/v2"
	"slices"
	"strconv"
	"strings"
	"testing"

	"retcon/api"
	"retcon/keys"
)

func seeded() *rand.Rand { return rand.New(rand.NewPCG(4, 5)) }

// words are a list, written with spaces between its keys.
func words(s string) []string { return strings.Fields(s) }

// few are keys that are near one another: the empty one, a beginning of another one, the key right behind another one, the least and the greatest bytes.
func few() []string { return []string{"", "\x00", "a", "a\x00", "aa", "b", "\xff"} }

// lists are all of at most n keys out of some, in all orders, each as often as may be.
func lists(some []string, n int) [][]string {
	all := [][]string{nil}
	last := all
	for range n {
		var longer [][]string
		for _, l := range last {
			for _, k := range some {
				longer = append(longer, append(slices.Clone(l), k))
			}
		}
		all, last = append(all, longer...), longer
	}
	return all
}

// someOf are up to n out of all, some of them more than once.
func someOf[T any](r *rand.Rand, all []T, n int) []T {
	l := make([]T, r.IntN(n+1))
	for i := range l {
		l[i] = all[r.IntN(len(all))]
	}
	return l
}

// less is the order of keys, sentence by sentence as the document says it.
func less(a, b string) bool {
	for i := range min(len(a), len(b)) {
		if a[i] != b[i] {
			return a[i] < b[i]
		}
	}
	return len(a) < len(b)
}

// rises is whether keys rise, by the words of the document.
func rises(l []string) bool {
	for i := 1; i < len(l); i++ {
		if !less(l[i-1], l[i]) {
			return false
		}
	}
	return true
}

// has is whether a key is one of some.
func has(l []string, k string) bool {
	for _, x := range l {
		if x == k {
			return true
		}
	}
	return false
}

// setOf is the set of those keys of lists of which want holds: of what is left each time the least one.
func setOf(want func(string) bool, from ...[]string) []string {
	left := slices.Concat(from...)
	var set []string
	for len(left) > 0 {
		least := left[0]
		for _, k := range left {
			if less(k, least) {
				least = k
			}
		}
		if want(least) {
			set = append(set, least)
		}
		var rest []string
		for _, k := range left {
			if k != least {
				rest = append(rest, k)
			}
		}
		left = rest
	}
	return set
}

func always(string) bool { return true }

// P4.1, P4.2: the examples of the chapter, and others of their kind.
func TestExamplesOfSets(t *testing.T) {
	for _, x := range []struct {
		name      string
		got, want []string
	}{
		{"Sort b a b", keys.Sort(words("b a b")), words("a b")},
		{"Sort none", keys.Sort(nil), nil},
		{"Sort one empty key", keys.Sort([]string{""}), []string{""}},
		{"Sort the empty key twice", keys.Sort([]string{"", "a", ""}), []string{"", "a"}},
		{"Union a c, b c", keys.Union(words("a c"), words("b c")), words("a b c")},
		{"Union none, none", keys.Union(nil, []string{}), nil},
		{"Union none, b a", keys.Union(nil, words("b a")), words("a b")},
		{"Union b b a, none", keys.Union(words("b b a"), nil), words("a b")},
		{"Minus a c, c", keys.Minus(words("a c"), words("c")), words("a")},
		{"Minus c, a c", keys.Minus(words("c"), words("a c")), nil},
		{"Minus c a c b, d b", keys.Minus(words("c a c b"), words("d b")), words("a c")},
		{"Minus none, a", keys.Minus(nil, words("a")), nil},
		{"Minus b a, none", keys.Minus(words("b a"), nil), words("a b")},
		{"Minus of the empty key", keys.Minus([]string{"a", ""}, []string{""}), words("a")},
		{"Minus without the empty key", keys.Minus([]string{"a", ""}, words("a")), []string{""}},
		{"Both a c, c d", keys.Both(words("a c"), words("c d")), words("c")},
		{"Both d c a c, c b d", keys.Both(words("d c a c"), words("c b d")), words("c d")},
		{"Both a, b", keys.Both(words("a"), words("b")), nil},
		{"Both a, none", keys.Both(words("a"), nil), nil},
		{"Both none, a", keys.Both(nil, words("a")), nil},
		{"Both of the empty key", keys.Both([]string{"a", ""}, []string{"", "b"}), []string{""}},
		{"Both none, the empty key", keys.Both(nil, []string{""}), nil},
	} {
		if !slices.Equal(x.got, x.want) {
			t.Errorf("%s: %q, want %q", x.name, x.got, x.want)
		}
	}
}

// P4.1: the examples of the chapter, and others of their kind.
func TestExamplesOfCheckAndHas(t *testing.T) {
	for _, x := range []struct {
		l    []string
		want bool
	}{
		{words("a b"), true},
		{words("a a"), false},
		{words("b a"), false},
		{nil, true},
		{[]string{}, true},
		{[]string{""}, true},
		{[]string{"", ""}, false},
		{[]string{"", "\x00"}, true},
		{[]string{"a", "a\x00"}, true},
		{[]string{"a\x00", "a"}, false},
		{words("a b c b"), false},
		{words("b a c d"), false},
		{words("10 9"), true},
		{words("Z a"), true},
		{[]string{"a", "\x80"}, true},
	} {
		if keys.Check(x.l) != x.want {
			t.Errorf("Check %q: %v", x.l, !x.want)
		}
	}
	if !keys.Has(words("a b"), "b") || !keys.Has(words("b c a"), "a") || keys.Has(words("a b"), "c") || keys.Has(words("ab"), "a") || keys.Has(words("a"), "ab") {
		t.Error("Has")
	}
	if keys.Has(nil, "") || keys.Has([]string{}, "") || keys.Has(words("a"), "") || !keys.Has([]string{"a", ""}, "") {
		t.Error("Has of the empty key")
	}
}

// P4.1: Check, Sort and Has, of all lists of at most four keys.
func TestLists(t *testing.T) {
	for _, l := range lists(few(), 4) {
		if keys.Check(l) != rises(l) {
			t.Fatalf("Check %q: want %v", l, rises(l))
		}
		if got, want := keys.Sort(l), setOf(always, l); !slices.Equal(got, want) {
			t.Fatalf("Sort %q: %q, want %q", l, got, want)
		}
		for _, k := range append(few(), "ab", "zz") {
			if keys.Has(l, k) != has(l, k) {
				t.Fatalf("Has %q, %q: want %v", l, k, has(l, k))
			}
		}
	}
}

// P4.1: a list that rises is its own set, and no other list is.
func TestSortIsItsOwn(t *testing.T) {
	for _, l := range lists(few(), 4) {
		got := keys.Sort(l)
		if !keys.Check(got) || !slices.Equal(keys.Sort(got), got) || slices.Equal(got, l) != keys.Check(l) {
			t.Fatalf("%q: %q", l, got)
		}
	}
}

// P4.1: the order is that of bytes, whatever text they are, of all 256 of them, and of texts too long for keys.
func TestOrder(t *testing.T) {
	long := strings.Repeat("k", 1000)
	rise := []string{"", "\x00", "\x00\x00", "\x01", "10", "9", "A", "Z", "a", "a\x00", "a ", "aa", "b", "k", long[:32], long[:33], long, long + "\x00", "\x7f", "\x80", "\xc3\xa9", "\xff", "\xff\xff"}
	for i, a := range rise {
		for j, b := range rise {
			if keys.Check([]string{a, b}) != (i < j) {
				t.Errorf("%q, %q", a, b)
			}
		}
	}
	var bytes []string
	for x := range 256 {
		bytes = append(bytes, string([]byte{'k', byte(x)}))
	}
	for _, want := range [][]string{rise, bytes} {
		mixed := append(slices.Clone(want), want...)
		seeded().Shuffle(len(mixed), func(i, j int) { mixed[i], mixed[j] = mixed[j], mixed[i] })
		if got := keys.Sort(mixed); !slices.Equal(got, want) {
			t.Errorf("%q", got)
		}
	}
}

// holdSets holds what is told of two lists against the chapter's words, and against what follows from them.
func holdSets(t *testing.T, a, b []string) {
	t.Helper()
	union, minus, other, both := keys.Union(a, b), keys.Minus(a, b), keys.Minus(b, a), keys.Both(a, b)
	for _, x := range []struct {
		name      string
		got, want []string
	}{
		{"Union", union, setOf(always, a, b)},
		{"Minus", minus, setOf(func(k string) bool { return !has(b, k) }, a)},
		{"Minus the other way", other, setOf(func(k string) bool { return !has(a, k) }, b)},
		{"Both", both, setOf(func(k string) bool { return has(b, k) }, a)},
	} {
		if !slices.Equal(x.got, x.want) {
			t.Fatalf("%s of %q, %q: %q, want %q", x.name, a, b, x.got, x.want)
		}
		if !rises(x.got) || !keys.Check(x.got) {
			t.Fatalf("%s of %q, %q: %q does not rise", x.name, a, b, x.got)
		}
	}
	parts := slices.Concat(minus, other, both)
	if !slices.Equal(keys.Sort(parts), union) || len(parts) != len(union) {
		t.Fatalf("%q, %q: %q is not %q, %q and %q", a, b, union, minus, other, both)
	}
	if !slices.Equal(keys.Union(b, a), union) || !slices.Equal(keys.Both(b, a), both) {
		t.Fatalf("%q, %q: not the same the other way", a, b)
	}
}

// P4.2, P4.4: Union, Minus and Both, of all pairs of lists of at most three out of four keys.
func TestPairs(t *testing.T) {
	all := lists([]string{"", "a", "a\x00", "b"}, 3)
	for _, a := range all {
		for _, b := range all {
			holdSets(t, a, b)
		}
	}
}

// P4.2, P4.4: the same of longer lists.
func TestLongerPairs(t *testing.T) {
	r := seeded()
	var some []string
	for _, l := range lists([]string{"\x00", "a", "b", "\xff"}, 2) {
		some = append(some, strings.Join(l, ""))
	}
	for range 3000 {
		holdSets(t, someOf(r, some, 25), someOf(r, some, 25))
	}
}

// P4.2: a list beside itself, in another order, and more than once.
func TestBesideItself(t *testing.T) {
	r := seeded()
	for _, l := range lists(few(), 3) {
		mixed := append(slices.Clone(l), l...)
		r.Shuffle(len(mixed), func(i, j int) { mixed[i], mixed[j] = mixed[j], mixed[i] })
		set := keys.Sort(l)
		if !slices.Equal(keys.Union(l, mixed), set) || !slices.Equal(keys.Both(mixed, l), set) || len(keys.Minus(l, mixed)) != 0 || len(keys.Minus(mixed, l)) != 0 {
			t.Fatalf("%q, %q", l, mixed)
		}
	}
}

// name is a key of a number, such that names rise as the numbers do.
func name(i int) string {
	d := strconv.Itoa(i)
	return strings.Repeat("0", 7-len(d)) + d
}

// P4.1, P4.2, P4.3 (P1): long lists, in an order that is far from theirs, and as many spans.
func TestLongLists(t *testing.T) {
	const n = 100000
	var twos, threes []string
	var spans []api.Span
	for i := range n {
		j := i * 7919 % n
		twos, threes = append(twos, name(2*j)), append(threes, name(3*j))
		spans = append(spans, api.Span{Lo: name(3 * j), Hi: name(3*j + 1)})
	}
	want := map[string][]string{}
	for i := range 3 * n {
		two, three := i%2 == 0 && i < 2*n, i%3 == 0
		for _, x := range []struct {
			name string
			in   bool
		}{{"twos", two}, {"either", two || three}, {"both", two && three}, {"twos alone", two && !three}, {"threes alone", three && !two}} {
			if x.in {
				want[x.name] = append(want[x.name], name(i))
			}
		}
	}
	for what, got := range map[string][]string{"twos": keys.Sort(twos), "either": keys.Union(twos, threes), "both": keys.Both(twos, threes), "twos alone": keys.Minus(twos, threes), "threes alone": keys.Minus(threes, twos)} {
		if !slices.Equal(got, want[what]) {
			t.Errorf("%s: %d, want %d", what, len(got), len(want[what]))
		}
	}
	if got := keys.Among(twos, spans); !slices.Equal(got, want["both"]) {
		t.Errorf("among: %d, want %d", len(got), len(want["both"]))
	}
	if keys.Meets(want["twos alone"], want["threes alone"], spans) || !keys.Meets(append(want["twos alone"], name(6)), nil, spans) || !keys.Meets(twos, threes, nil) {
		t.Error("meets")
	}
	if !keys.Check(want["twos"]) || keys.Check(twos) || !keys.Has(twos, name(2*n-2)) || keys.Has(twos, name(3)) {
		t.Error("check, has")
	}
}
