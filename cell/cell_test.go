package cell_test

import (
	"math"
	"math/rand/v2"
	"slices"
	"strconv"
	"strings"
	"testing"

	"retcon/api"
	"retcon/cell"
)

func seeded() *rand.Rand { return rand.New(rand.NewPCG(7, 8)) }

// of is pairs, written as keys and values in turn.
func of(kv ...string) []api.Pair {
	var l []api.Pair
	for i := 0; i < len(kv); i += 2 {
		l = append(l, api.Pair{K: kv[i], V: kv[i+1]})
	}
	return l
}

func s(lo, hi string) api.Span { return api.Span{Lo: lo, Hi: hi} }

func long(n int) string { return strings.Repeat("\xff", n) }

// few are keys that are near one another: the least one, a beginning of another one, the key right behind another one, the greatest byte.
func few() []string { return []string{"\x00", "a", "a\x00", "b", "\xff"} }

// states are all of some keys, each with one of two values, or not there.
func states(some []string) [][]api.Pair {
	all := [][]api.Pair{nil}
	for _, k := range some {
		var more [][]api.Pair
		for _, l := range all {
			more = append(more, l, slices.Concat(l, of(k, "")), slices.Concat(l, of(k, "1")))
		}
		all = more
	}
	return all
}

// lists are all of at most n out of some, in all orders, each as often as may be.
func lists[T any](some []T, n int) [][]T {
	all := [][]T{nil}
	last := all
	for range n {
		var longer [][]T
		for _, l := range last {
			for _, x := range some {
				longer = append(longer, append(slices.Clone(l), x))
			}
		}
		all, last = append(all, longer...), longer
	}
	return all
}

// less is the order of keys, sentence by sentence as the document says it.
func less(a, b string) bool {
	for i := range min(len(a), len(b)) {
		if a[i] != b[i] {
			return a[i] < b[i]
		}
	}
	return len(a) < len(b)
}

// isState is whether pairs are a state, by the words of the document.
func isState(l []api.Pair) bool {
	for i, p := range l {
		if len(p.K) < 1 || len(p.K) > 32 || len(p.V) > 64 || i > 0 && !less(l[i-1].K, p.K) {
			return false
		}
	}
	return len(l) <= 65536
}

// name is a key of a number, such that names rise as the numbers do.
func name(i int) string {
	d := strconv.Itoa(i)
	return strings.Repeat("0", 7-len(d)) + d
}

// row is a state of so many pairs, every second number a key.
func row(n int) []api.Pair {
	l := make([]api.Pair, n)
	for i := range l {
		l[i] = api.Pair{K: name(2 * i), V: strconv.Itoa(i)}
	}
	return l
}

// P7.1, P7.2: the examples of the chapter.
func TestExamplesOfAsking(t *testing.T) {
	l := of("a", "1", "b", "2", "d", "4")
	if v, there := cell.Get(l, "b"); v != "2" || !there {
		t.Errorf("Get b: %q, %v", v, there)
	}
	if v, there := cell.Get(l, "c"); v != "" || there {
		t.Errorf("Get c: %q, %v", v, there)
	}
	if got := cell.Scan(l, s("b", ""), 5); !slices.Equal(got, of("b", "2", "d", "4")) {
		t.Errorf("Scan b..: %q", got)
	}
	if got := cell.Scan(l, s("", ""), 1); !slices.Equal(got, of("a", "1")) {
		t.Errorf("Scan ..: %q", got)
	}
	if err := cell.Check(of("b", "", "a", "")); err != api.ErrArg {
		t.Errorf("Check b, a: %v", err)
	}
	if cell.Key("") {
		t.Error("Key of none")
	}
}

// P7.1: a key has 1 to 32 bytes, whichever they are.
func TestKey(t *testing.T) {
	for n := range 200 {
		for _, c := range []string{"\x00", "k", " ", "\xff"} {
			if k := strings.Repeat(c, n); cell.Key(k) != (n >= 1 && n <= 32) {
				t.Errorf("%q, %d bytes: %v", c, n, cell.Key(k))
			}
		}
	}
	for c := range 256 {
		if !cell.Key(string([]byte{byte(c)})) {
			t.Errorf("byte %d", c)
		}
	}
	if !cell.Key(strings.Repeat("é", 16)) || cell.Key(strings.Repeat("é", 17)) || cell.Key(strings.Repeat("k", 1<<20)) {
		t.Error("bytes of letters")
	}
}

// P7.1: the edges of each sentence.
func TestCheck(t *testing.T) {
	for i, x := range []struct {
		l    []api.Pair
		want api.Errno
	}{
		{nil, api.OK},
		{[]api.Pair{}, api.OK},
		{of("a", ""), api.OK},
		{of("\x00", "\x00"), api.OK},
		{of("", ""), api.ErrArg},
		{of("", "1", "a", "1"), api.ErrArg},
		{of(long(32), long(64)), api.OK},
		{of(long(33), ""), api.ErrArg},
		{of("a", long(65)), api.ErrArg},
		{of("a", "1", "b", long(65)), api.ErrArg},
		{of("a", long(65), "b", "1"), api.ErrArg},
		{of("a", "1", long(33), "1"), api.ErrArg},
		{of("a", "1", "b", "2", "d", "4"), api.OK},
		{of("a", "1", "a", "1"), api.ErrArg},
		{of("a", "1", "a", "2"), api.ErrArg},
		{of("a", "1", "a\x00", "1"), api.OK},
		{of("a\x00", "1", "a", "1"), api.ErrArg},
		{of("a", "1", "b", "2", "b", "3"), api.ErrArg},
		{of("b", "1", "a", "2", "c", "3"), api.ErrArg},
		{of("a", "1", "c", "2", "b", "3"), api.ErrArg},
		{of("10", "", "9", ""), api.OK},
		{of("Z", "", "a", ""), api.OK},
		{of("a", "", "\x80", ""), api.OK},
		{of("a", "2", "b", "1"), api.OK},
		{make([]api.Pair, 65536), api.ErrArg},
		{make([]api.Pair, 65537), api.ErrLong},
		{make([]api.Pair, 1<<20), api.ErrLong},
	} {
		if err := cell.Check(x.l); err != x.want {
			t.Errorf("%d: %v, want %v", i, err, x.want)
		}
	}
}

// parts are pairs that lists are made of, such as may be in a state and such as may not.
func parts() []api.Pair {
	return of("", "", "\x00", "", "a", "1", "a", long(64), "a", long(65), "a\x00", "", "b", "2", long(32), "3", long(33), "")
}

// P7.1: Check of all lists of at most four pairs.
func TestCheckOfAll(t *testing.T) {
	told := map[api.Errno]int{}
	for _, l := range lists(parts(), 4) {
		want := api.ErrArg
		if isState(l) {
			want = api.OK
		}
		if err := cell.Check(l); err != want {
			t.Fatalf("%q: %v, want %v", l, err, want)
		}
		told[want]++
	}
	if told[api.OK] < 40 || told[api.ErrArg] < 1000 {
		t.Error(told)
	}
}

// P7.1: what is wrong is found wherever it stands among as many pairs as may be, and one more is too many, wrong or not.
func TestCheckOfMany(t *testing.T) {
	l := row(65536)
	if err := cell.Check(l); err != api.OK {
		t.Fatal(err)
	}
	for _, at := range []int{0, 1, 2, 255, 256, 32767, 32768, 40000, 65534, 65535} {
		bads := of("", "", long(33), "", l[at].K, long(65))
		if at > 0 {
			bads = append(bads, l[at-1], l[0])
		}
		for _, bad := range bads {
			was := l[at]
			l[at] = bad
			if err := cell.Check(l); err != api.ErrArg {
				t.Errorf("%q at %d: %v", bad, at, err)
			}
			l[at] = was
		}
	}
	for _, more := range of(name(200000), "", "", "", "a", long(65)) {
		if err := cell.Check(append(slices.Clone(l), more)); err != api.ErrLong {
			t.Errorf("%q behind: %v", more, err)
		}
	}
}

// held is the value of a key, by the words of the document.
func held(l []api.Pair, k string) (string, bool) {
	for _, p := range l {
		if p.K == k {
			return p.V, true
		}
	}
	return "", false
}

// P7.2: Get of all small states, of keys that are there, between, ahead and behind, and of texts that are no keys.
func TestGet(t *testing.T) {
	asks := append(few(), "", "\x00\x00", "A", "aa", "a\x00\x00", "b\x00", "c", "\xfe", "\xff\x00", long(32), long(33), long(1000))
	for _, l := range states(few()) {
		for _, k := range asks {
			v, there := cell.Get(l, k)
			if want, is := held(l, k); v != want || there != is {
				t.Fatalf("Get %q, %q: %q, %v", l, k, v, there)
			}
		}
	}
}

// inside are the first ones of the pairs in a span, by the words of the document.
func inside(l []api.Pair, x api.Span, most int) []api.Pair {
	var told []api.Pair
	for _, p := range l {
		if !less(p.K, x.Lo) && (x.Hi == "" || less(p.K, x.Hi)) && len(told) < most {
			told = append(told, p)
		}
	}
	return told
}

// spans are all whose ends are near few: empty ones and endless ones too.
func spans() []api.Span {
	var all []api.Span
	ends := append(few(), "", "aa", "a\x00\x00", "c", "\xff\x00")
	for _, lo := range ends {
		for _, hi := range ends {
			all = append(all, s(lo, hi))
		}
	}
	return all
}

// P7.2: Scan of all small states, all spans, as many as there are, more and fewer.
func TestScan(t *testing.T) {
	for _, l := range states(few()) {
		for _, x := range spans() {
			for _, most := range []int{math.MinInt, -1, 0, 1, 2, 3, 4, 5, 6, 16, math.MaxInt} {
				if got := cell.Scan(l, x, most); !slices.Equal(got, inside(l, x, most)) {
					t.Fatalf("Scan %q, %q, %d: %q", l, x, most, got)
				}
			}
		}
	}
}

// P7.2: of what is no state there is nothing, wherever it is wrong, and however far from what is asked.
func TestAskedOfNoState(t *testing.T) {
	wrong := 0
	for _, l := range append(lists(parts(), 3), row(65537), slices.Concat(row(65535), of("x", long(65)))) {
		if isState(l) {
			continue
		}
		wrong++
		for _, p := range slices.Concat(l[:min(len(l), 3)], parts()) {
			if v, there := cell.Get(l, p.K); v != "" || there {
				t.Fatalf("Get %q, %q: %q, %v", l, p.K, v, there)
			}
		}
		for _, x := range []api.Span{s("", ""), s("a", "b"), s("b", "")} {
			if got := cell.Scan(l, x, 9); len(got) > 0 {
				t.Fatalf("Scan %q, %q: %q", l, x, got)
			}
		}
	}
	if wrong < 100 {
		t.Error(wrong)
	}
}

// P7.4: what is scanned in parts, each from right behind the last key of the one ahead, or up to any key and from there on, is the whole.
func TestScanInParts(t *testing.T) {
	for _, l := range states(few()) {
		for _, x := range spans() {
			whole := cell.Scan(l, x, len(l))
			for _, n := range []int{1, 2, 3} {
				var all []api.Pair
				rest := x
				for got := cell.Scan(l, rest, n); len(got) > 0; got = cell.Scan(l, rest, n) {
					all = append(all, got...)
					rest.Lo = got[len(got)-1].K + "\x00"
				}
				if !slices.Equal(all, whole) {
					t.Fatalf("%q, %q by %d: %q, want %q", l, x, n, all, whole)
				}
			}
			for _, k := range few() {
				if !less(k, x.Lo) && (x.Hi == "" || less(k, x.Hi)) {
					if got := slices.Concat(cell.Scan(l, s(x.Lo, k), 9), cell.Scan(l, s(k, x.Hi), 9)); !slices.Equal(got, whole) {
						t.Fatalf("%q, %q at %q: %q, want %q", l, x, k, got, whole)
					}
				}
			}
		}
	}
}

// P7.2: Get and Scan of as many pairs as may be.
func TestAskedOfMany(t *testing.T) {
	l := row(65536)
	r := seeded()
	at := []int{0, 1, 32768, 65534, 65535}
	for range 600 {
		at = append(at, r.IntN(len(l)))
	}
	for _, i := range at {
		if v, there := cell.Get(l, name(2*i)); v != strconv.Itoa(i) || !there {
			t.Fatalf("%d: %q, %v", i, v, there)
		}
		if v, there := cell.Get(l, name(2*i+1)); v != "" || there {
			t.Fatalf("behind %d: %q, %v", i, v, there)
		}
		end, most := min(i+r.IntN(40), len(l)), r.IntN(40)
		want := l[i:min(end, i+most)]
		if got := cell.Scan(l, s(name(max(2*i-1, 0)), name(2*end)), most); !slices.Equal(got, want) {
			t.Fatalf("%d to %d, at most %d: %q", i, end, most, got)
		}
	}
	if got := cell.Scan(l, s("", ""), len(l)); !slices.Equal(got, l) {
		t.Error(len(got))
	}
}
