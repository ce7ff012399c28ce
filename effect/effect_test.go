package effect_test

import (
	"bytes"
	"math"
	"math/rand/v2"
	"slices"
	"strings"
	"testing"

	"retcon/api"
	"retcon/effect"
)

func seeded() *rand.Rand { return rand.New(rand.NewPCG(9, 10)) }

func pick[T any](r *rand.Rand, l []T) T { return l[r.IntN(len(l))] }

func long(n int) string { return strings.Repeat("k", n) }

// name is a key of a number from 0 to 99, such that names rise as the numbers do.
func name(i int) string { return string([]byte{byte('0' + i/10), byte('0' + i%10)}) }

// names are so many keys that rise.
func names(n int) []string {
	var l []string
	for i := range n {
		l = append(l, name(i))
	}
	return l
}

// spans are Lo and Hi in turn.
func spans(ends ...string) []api.Span {
	var l []api.Span
	for i := 0; i < len(ends); i += 2 {
		l = append(l, api.Span{Lo: ends[i], Hi: ends[i+1]})
	}
	return l
}

// apart are so many spans that are joined.
func apart(n int) []api.Span {
	var l []api.Span
	for i := range n {
		l = append(l, api.Span{Lo: name(i), Hi: name(i) + "5"})
	}
	return l
}

// puts are keys and values in turn.
func puts(kv ...string) []api.Write {
	var l []api.Write
	for i := 0; i < len(kv); i += 2 {
		l = append(l, api.Write{K: kv[i], V: kv[i+1]})
	}
	return l
}

// dels are writes by which keys go.
func dels(some ...string) []api.Write {
	var l []api.Write
	for _, k := range some {
		l = append(l, api.Write{K: k, Del: true})
	}
	return l
}

// example is the x of the chapter's examples.
func example() api.Effect {
	return api.Effect{Steps: 3, Reads: []string{"b"}, Spans: spans("c", "d"), Writes: puts("b", "2")}
}

// equal is whether two effects are the same; nil and empty lists are.
func equal(x, y api.Effect) bool {
	return x.Why == y.Why && x.Steps == y.Steps && slices.Equal(x.Reads, y.Reads) && slices.Equal(x.Spans, y.Spans) && slices.Equal(x.Writes, y.Writes)
}

// less is the order of keys, as the document says it.
func less(a, b string) bool {
	for i := range min(len(a), len(b)) {
		if a[i] != b[i] {
			return a[i] < b[i]
		}
	}
	return len(a) < len(b)
}

func isKey(k string) bool { return len(k) >= 1 && len(k) <= 32 }

// bounded is whether Why and Steps are within their bounds.
func bounded(x api.Effect) bool {
	return x.Why >= 0 && x.Why <= 3 && x.Steps >= 0 && x.Steps <= 200
}

// may is what Check tells, sentence by sentence as the document says it.
func may(x api.Effect) api.Errno {
	if len(x.Reads)+len(x.Spans)+len(x.Writes) > 60 {
		return api.ErrLong
	}
	ok := bounded(x)
	for i, k := range x.Reads {
		ok = ok && isKey(k) && (i == 0 || less(x.Reads[i-1], k))
	}
	for i, s := range x.Spans {
		ok = ok && len(s.Lo) <= 64 && len(s.Hi) <= 64 && (s.Hi == "" || less(s.Lo, s.Hi))
		if i > 0 {
			p := x.Spans[i-1]
			ok = ok && less(p.Lo, s.Lo) && p.Hi != "" && less(p.Hi, s.Lo)
		}
	}
	for i, w := range x.Writes {
		ok = ok && x.Why == 0 && isKey(w.K) && len(w.V) <= 64 && (!w.Del || w.V == "") && (i == 0 || less(x.Writes[i-1].K, w.K))
	}
	if !ok {
		return api.ErrArg
	}
	return api.OK
}

// number is how a number is written, below 2^14.
func number(n int) []byte {
	if n < 128 {
		return []byte{byte(n)}
	}
	return []byte{byte(n%128 + 128), byte(n / 128)}
}

// row is an effect's bytes, sentence by sentence as the document says it.
func row(x api.Effect) []byte {
	b := append(number(x.Why), number(x.Steps)...)
	text := func(s string) { b = append(append(b, number(len(s))...), s...) }
	b = append(b, number(len(x.Reads))...)
	for _, k := range x.Reads {
		text(k)
	}
	b = append(b, number(len(x.Spans))...)
	for _, s := range x.Spans {
		text(s.Lo)
		text(s.Hi)
	}
	b = append(b, number(len(x.Writes))...)
	for _, w := range x.Writes {
		text(w.K)
		if w.Del {
			b = append(b, 1)
		} else {
			b = append(b, 0)
			text(w.V)
		}
	}
	return b
}

// hold holds Check, Bytes and Read of one effect against the document's words (P9.1, P9.2, P9.3), and tells what Check told.
func hold(t *testing.T, x api.Effect) api.Errno {
	t.Helper()
	want := may(x)
	if err := effect.Check(x); err != want {
		t.Fatalf("Check(%+v): %v, want %v", x, err, want)
	}
	b, err := effect.Bytes(x)
	if want != api.OK {
		if err != want || len(b) > 0 {
			t.Fatalf("Bytes(%+v): %v, %v, want %v", x, b, err, want)
		}
		return want
	}
	if err != api.OK || !bytes.Equal(b, row(x)) {
		t.Fatalf("Bytes(%+v): %v, %v, want %v", x, b, err, row(x))
	}
	if again, f := effect.Read(b); f != (api.Fault{}) || !equal(again, x) {
		t.Fatalf("Read(%v): %+v, %v, want %+v", b, again, f, x)
	}
	return want
}

// P9.1, P9.2: the examples of the chapter.
func TestExamples(t *testing.T) {
	x := example()
	want := []byte{0, 3, 1, 1, 98, 1, 1, 99, 1, 100, 1, 1, 98, 0, 1, 50}
	if b, err := effect.Bytes(x); !bytes.Equal(b, want) || err != api.OK {
		t.Errorf("Bytes: %v, %v", b, err)
	}
	if again, f := effect.Read(want); !equal(again, x) || f != (api.Fault{}) {
		t.Errorf("Read: %+v, %v", again, f)
	}
	for _, y := range []struct {
		some []string
		want bool
	}{{[]string{"b"}, true}, {[]string{"c2"}, true}, {[]string{"a"}, false}, {nil, false}} {
		if effect.Meets(x, y.some) != y.want {
			t.Errorf("Meets %q", y.some)
		}
	}
	if got := effect.Keys(x); !slices.Equal(got, []string{"b"}) {
		t.Errorf("Keys: %q", got)
	}
	for i, y := range []api.Effect{{Why: 4}, {Why: api.EndAbort, Writes: x.Writes}, {Reads: []string{"b", "a"}}} {
		if err := effect.Check(y); err != api.ErrArg {
			t.Errorf("Check %d: %v", i, err)
		}
	}
	for _, y := range []struct {
		b []byte
		f api.Fault
	}{
		{[]byte{0}, api.Fault{Err: api.ErrBytes, At: 1}},
		{[]byte{0, 3, 0, 0, 0, 9}, api.Fault{Err: api.ErrBytes, At: 5}},
		{[]byte{4}, api.Fault{Err: api.ErrRange}},
	} {
		if got, f := effect.Read(y.b); !equal(got, api.Effect{}) || f != y.f {
			t.Errorf("Read(%v): %+v, %v", y.b, got, f)
		}
	}
}

// A checking is what Check tells of an effect.
type checking struct {
	x    api.Effect
	want api.Errno
}

func holdCheckings(t *testing.T, l []checking) {
	t.Helper()
	for i, x := range l {
		if err := effect.Check(x.x); err != x.want {
			t.Errorf("%d: %v, want %v", i, err, x.want)
		}
		hold(t, x.x)
	}
}

// P9.1: the edges of Why and of Steps; the same key may be read, scanned and written.
func TestCheckEnd(t *testing.T) {
	holdCheckings(t, []checking{
		{api.Effect{}, api.OK},
		{api.Effect{Reads: []string{}, Spans: []api.Span{}, Writes: []api.Write{}}, api.OK},
		{api.Effect{Why: 3}, api.OK},
		{api.Effect{Why: 4}, api.ErrArg},
		{api.Effect{Why: -1}, api.ErrArg},
		{api.Effect{Why: math.MaxInt}, api.ErrArg},
		{api.Effect{Why: math.MinInt}, api.ErrArg},
		{api.Effect{Steps: 200}, api.OK},
		{api.Effect{Steps: 201}, api.ErrArg},
		{api.Effect{Steps: -1}, api.ErrArg},
		{api.Effect{Steps: math.MaxInt}, api.ErrArg},
		{api.Effect{Steps: math.MinInt}, api.ErrArg},
		{api.Effect{Why: 3, Steps: 200, Reads: []string{"a", long(32)}, Spans: spans("", "")}, api.OK},
		{api.Effect{Reads: []string{"a"}, Spans: spans("a", "b"), Writes: dels("a")}, api.OK},
	})
}

// P9.1: the edges of Reads.
func TestCheckReads(t *testing.T) {
	holdCheckings(t, []checking{
		{api.Effect{Reads: []string{""}}, api.ErrArg},
		{api.Effect{Reads: []string{"", "a"}}, api.ErrArg},
		{api.Effect{Reads: []string{long(33)}}, api.ErrArg},
		{api.Effect{Reads: []string{"a", long(33)}}, api.ErrArg},
		{api.Effect{Reads: []string{"\x00", "\x00\x00", "\xff"}}, api.OK},
		{api.Effect{Reads: []string{"a", "a"}}, api.ErrArg},
		{api.Effect{Reads: []string{"a", "c", "b"}}, api.ErrArg},
	})
}

// P9.1: the edges of Spans.
func TestCheckSpans(t *testing.T) {
	holdCheckings(t, []checking{
		{api.Effect{Spans: spans("", "")}, api.OK},
		{api.Effect{Spans: spans(long(64), "")}, api.OK},
		{api.Effect{Spans: spans(long(65), "")}, api.ErrArg},
		{api.Effect{Spans: spans("", long(64))}, api.OK},
		{api.Effect{Spans: spans("", long(65))}, api.ErrArg},
		{api.Effect{Spans: spans("a", "b", "c", long(65))}, api.ErrArg},
		{api.Effect{Spans: spans("a", "b", long(65), "")}, api.ErrArg},
		{api.Effect{Spans: spans("a", "a")}, api.ErrArg},
		{api.Effect{Spans: spans("b", "a")}, api.ErrArg},
		{api.Effect{Spans: spans("a", "a\x00")}, api.OK},
		{api.Effect{Spans: spans("a", "b", "b", "c")}, api.ErrArg},
		{api.Effect{Spans: spans("a", "b", "b\x00", "c")}, api.OK},
		{api.Effect{Spans: spans("a", "c", "b", "d")}, api.ErrArg},
		{api.Effect{Spans: spans("c", "d", "a", "b")}, api.ErrArg},
		{api.Effect{Spans: spans("a", "", "b", "c")}, api.ErrArg},
		{api.Effect{Spans: spans("a", "b", "c", "")}, api.OK},
		{api.Effect{Spans: spans("a", "b", "c", "c")}, api.ErrArg},
		{api.Effect{Spans: spans("a", "b", "a", "b")}, api.ErrArg},
	})
}

// P9.1: the edges of Writes.
func TestCheckWrites(t *testing.T) {
	holdCheckings(t, []checking{
		{api.Effect{Writes: puts(long(32), long(64))}, api.OK},
		{api.Effect{Writes: puts("", "1")}, api.ErrArg},
		{api.Effect{Writes: puts(long(33), "")}, api.ErrArg},
		{api.Effect{Writes: puts("a", long(65))}, api.ErrArg},
		{api.Effect{Writes: puts("a", "1", "b", long(65))}, api.ErrArg},
		{api.Effect{Writes: dels("a", "b")}, api.OK},
		{api.Effect{Writes: dels("")}, api.ErrArg},
		{api.Effect{Writes: dels(long(33))}, api.ErrArg},
		{api.Effect{Writes: []api.Write{{K: "a", V: "1", Del: true}}}, api.ErrArg},
		{api.Effect{Writes: puts("b", "", "a", "")}, api.ErrArg},
		{api.Effect{Writes: puts("a", "1", "a", "2")}, api.ErrArg},
		{api.Effect{Writes: slices.Concat(dels("a"), puts("a", "1"))}, api.ErrArg},
		{api.Effect{Writes: slices.Concat(puts("a", "1"), dels("b"), puts("c", ""))}, api.OK},
		{api.Effect{Why: 1, Writes: puts("a", "1")}, api.ErrArg},
		{api.Effect{Why: 2, Writes: puts("a", "1")}, api.ErrArg},
		{api.Effect{Why: 3, Writes: dels("a")}, api.ErrArg},
	})
}

// P9.1: 60 in all, however they are parted, and one more: that is told ahead of all else.
func TestSixty(t *testing.T) {
	for _, n := range [][3]int{{60, 0, 0}, {0, 60, 0}, {0, 0, 60}, {20, 20, 20}, {59, 1, 0}, {1, 0, 59}, {0, 30, 30}} {
		x := api.Effect{Reads: names(n[0]), Spans: apart(n[1]), Writes: dels(names(n[2])...)}
		if err := hold(t, x); err != api.OK {
			t.Errorf("%v: %v", n, err)
		}
		bad := x
		bad.Why, bad.Steps = -1, 300
		for i, more := range []api.Effect{
			{Reads: names(n[0] + 1), Spans: x.Spans, Writes: x.Writes},
			{Reads: x.Reads, Spans: apart(n[1] + 1), Writes: x.Writes},
			{Reads: x.Reads, Spans: x.Spans, Writes: dels(names(n[2] + 1)...)},
			{Why: 9, Steps: -9, Reads: append(slices.Clone(x.Reads), ""), Spans: x.Spans, Writes: x.Writes},
			{Reads: x.Reads, Spans: append(spans("b", "a"), x.Spans...), Writes: x.Writes},
			{Why: 1, Reads: x.Reads, Spans: x.Spans, Writes: append(dels(""), x.Writes...)},
		} {
			if err := hold(t, more); err != api.ErrLong {
				t.Errorf("%v, %d: %v", n, i, err)
			}
		}
		if err := hold(t, bad); err != api.ErrArg {
			t.Errorf("%v: %v", n, err)
		}
	}
	if err := effect.Check(api.Effect{Reads: make([]string, 1<<20)}); err != api.ErrLong {
		t.Error(err)
	}
}

// lists are all of at most n out of some, in all orders, each as often as may be.
func lists[T any](some []T, n int) [][]T {
	all := [][]T{nil}
	last := all
	for range n {
		var longer [][]T
		for _, l := range last {
			for _, x := range some {
				longer = append(longer, append(slices.Clone(l), x))
			}
		}
		all, last = append(all, longer...), longer
	}
	return all
}

// ends are texts near one another, such as are keys and such as are none.
func ends() []string {
	return []string{"", "\x00", "a", "a\x00", "b", "\xff", long(32), long(33), long(64), long(65)}
}

func spanParts() []api.Span {
	l := spans("a", long(65), long(65), "", long(64), "", long(33), long(64))
	for _, lo := range []string{"", "a", "a\x00", "b", "c"} {
		for _, hi := range []string{"", "a", "a\x00", "b", "b\x00", "d"} {
			l = append(l, api.Span{Lo: lo, Hi: hi})
		}
	}
	return l
}

func writeParts() []api.Write {
	l := []api.Write{{K: "a", V: "1", Del: true}, {K: "b", V: long(64)}, {K: "b", V: long(65)}}
	for _, k := range ends()[:8] {
		l = append(l, api.Write{K: k, V: "2"}, api.Write{K: k, Del: true})
	}
	return l
}

// P9.1, P9.2, P9.3: all short lists of each kind, of each way to end.
func TestAllShort(t *testing.T) {
	told := map[api.Errno]int{}
	for _, l := range lists(ends(), 3) {
		told[hold(t, api.Effect{Reads: l, Why: len(l)})]++
	}
	for _, l := range lists(spanParts(), 3) {
		told[hold(t, api.Effect{Spans: l, Why: len(l)})]++
	}
	for _, l := range lists(writeParts(), 3) {
		for why := range 2 {
			told[hold(t, api.Effect{Writes: l, Why: why})]++
		}
	}
	if told[api.OK] < 400 || told[api.ErrArg] < 10000 {
		t.Error(told)
	}
}

// P9.1, P9.2: all that Why and Steps may be, and more.
func TestWhyAndSteps(t *testing.T) {
	for why := -2; why < 7; why++ {
		for steps := -2; steps < 300; steps++ {
			hold(t, api.Effect{Why: why, Steps: steps})
		}
	}
}

// P9.1: Meets is that one of the keys is one of its Reads, or in one of its Spans, by the words of the document.
func meets(x api.Effect, some []string) bool {
	for _, k := range some {
		for _, r := range x.Reads {
			if k == r {
				return true
			}
		}
		for _, s := range x.Spans {
			if !less(k, s.Lo) && (s.Hi == "" || less(k, s.Hi)) {
				return true
			}
		}
	}
	return false
}

// P9.1: Meets of effects that may be, and of such that may not: what is empty, joined wrongly, or no key counts as it stands.
func TestMeets(t *testing.T) {
	told := map[bool]int{}
	asks := lists(append(ends(), "a\x00\x00", "c", "d", "\xff\xff"), 2)
	for _, reads := range [][]string{nil, {"b"}, {""}, {"b", "a"}, {"a", "a"}, {long(65)}} {
		for _, in := range lists(spanParts(), 2) {
			x := api.Effect{Reads: reads, Spans: in}
			for i := len(in) % 7; i < len(asks); i += 1 + 6*len(in) {
				want := meets(x, asks[i])
				told[want]++
				if effect.Meets(x, asks[i]) != want {
					t.Fatalf("Meets(%+v, %q): not %v", x, asks[i], want)
				}
			}
		}
	}
	if told[true] < 1000 || told[false] < 1000 {
		t.Error(told)
	}
}

// P9.1: what an effect wrote, how it ended and what the keys are do not matter to Meets.
func TestMeetsReadsAlone(t *testing.T) {
	x := api.Effect{Why: 9, Steps: -1, Reads: names(61), Writes: puts("w", "r", "", "")}
	for k, want := range map[string]bool{"60": true, "00": true, "61": false, "w": false, "r": false, "": false} {
		if effect.Meets(x, []string{"z", k, "z"}) != want {
			t.Errorf("%q: not %v", k, want)
		}
	}
	x.Spans = spans("w", "")
	if !effect.Meets(x, []string{"w"}) || !effect.Meets(x, []string{long(100), "x" + long(100)}) || effect.Meets(x, []string{}) {
		t.Error("spans")
	}
}

// P9.1: Keys of any effect are those of its writes as they stand: not sorted, each as often as it is there, those that go too.
func TestKeys(t *testing.T) {
	for _, l := range lists(writeParts(), 2) {
		for why := -1; why < 5; why++ {
			got := effect.Keys(api.Effect{Why: why, Reads: []string{"r"}, Spans: spans("s", ""), Writes: l})
			if len(got) != len(l) {
				t.Fatalf("%+v: %q", l, got)
			}
			for i, w := range l {
				if got[i] != w.K {
					t.Fatalf("%+v: %q", l, got)
				}
			}
		}
	}
	if got := effect.Keys(api.Effect{Writes: dels(names(99)...)}); !slices.Equal(got, names(99)) {
		t.Error(got)
	}
}
